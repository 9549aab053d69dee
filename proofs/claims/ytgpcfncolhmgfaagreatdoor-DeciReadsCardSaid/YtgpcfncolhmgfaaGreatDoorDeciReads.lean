/-
  Proved: the law DeciReads of package typeballlaw04 returns true for every list of characters and every int (statement DeciReadsCardSaid), under the row's own conditions.
-/
import Derived.Test.YtgpcfncolhmgfaaGreatDoorDg6
import Derived.Test.YtgpcfncolhmgfaaGreatDoorLa4
import Derived.Test.YtgpcfncolhmgfaaGreatDoorOp0
import Derived.Test.YtgpcfncolhmgfaaGreatDoorCards
import Derived.Test.YtgpcfncolhmgfaaGreatDoorTie
import Derived.SizedLaws
import Derived.LaidMore
import Derived.Lay
import Derived.SevenTiedAt
import Derived.Stop.Joined
import Derived.Laws.StructEq
namespace Go.Proofs.YtgpcfncolhmgfaaGreatDoor
open Go.ChangeShapes Go.WideShapes Go.ChangeAt Go.RowKit
attribute [local go_sem ↓] Go.wp_at_zero Go.wp_at_succ

/-- What the program and the document read. -/
def gRK (f : Nat → Int) (n : Nat) (i : Int) : Bool := bgB f n i && gK f n i.toNat
def gRP (f : Nat → Int) (n : Nat) (i : Int) : Int := if gRK f n i = true then nwP (gT f n i.toNat) (gB f n i.toNat) else 0
def gRQ (f : Nat → Int) (n : Nat) (i : Int) : Nat := if gRK f n i = true then nwQ (gT f n i.toNat) (gB f n i.toNat) else 1
def gRE (f : Nat → Int) (n : Nat) (i : Int) : Nat := if gRK f n i = true then gE f n i.toNat else 0

theorem r4Read_any (a : Option Addr) (n c : Nat) (f : Nat → Int) (i : Int) (w : World) (h : KRow w .i32 a n c f) (hi : -9223372036854775808 ≤ i ∧ i ≤ 9223372036854775807) (hn : n ≤ 250) :
    Calls Tryz.prog 7 #[.slice a n c, .int .i64 i] w fun e w' => RdNum w w' e (gRP f n i) (gRQ f n i) (gRE f n i) (gRK f n i) := by
  unfold gRP gRQ gRE gRK
  cases hbg : bgB f n i with
  | false =>
    simp only [Bool.false_and, Bool.false_eq_true, if_false]
    exact r4Read_no a n c f i w h hi hbg
  | true =>
    obtain ⟨p, rfl, hpn⟩ : ∃ p : Nat, i = (p : Int) ∧ p < n := by
      unfold bgB at hbg
      split at hbg
      · rename_i hr; exact ⟨i.toNat, by omega, by omega⟩
      · cases hbg
    simp only [Bool.true_and, Int.toNat_natCast]
    exact r4Read_yes a n c f p w h hpn hbg hn

theorem rd_bds (f : Nat → Int) (n : Nat) (i : Int) : 0 < gRQ f n i ∧ ∃ K : Nat, K ≤ 100000 ∧ (gRP f n i).natAbs < 4294967296 ^ K ∧ gRQ f n i < 4294967296 ^ K := by
  unfold gRP gRQ
  by_cases hk : gRK f n i = true
  · rw [if_pos hk, if_pos hk]
    unfold gRK gK at hk
    rw [Bool.and_eq_true, Bool.and_eq_true] at hk
    obtain ⟨_, h1, h2⟩ := hk
    generalize i.toNat = p at *
    have hb1 := mK_bds h1
    have hb2 := eV_bds h2
    have hlen := mL_len f n (gP f n p)
    have hN : numOf (mL f n (gP f n p)) < 10 ^ 200 := Nat.lt_of_lt_of_le (numOf_lt _ mL_dig) (Nat.pow_le_pow_right (by omega) (by omega))
    have hx : gX f n p ≤ 1000 ∧ -1200 ≤ gX f n p := by unfold gX; omega
    obtain ⟨K2, hK2⟩ : ∃ K : Nat, K = 200 := ⟨_, rfl⟩
    have hN2 : numOf (mL f n (gP f n p)) < 4294967296 ^ K2 := Nat.lt_trans hN (ten_lt 200 K2 (by omega) (by omega))
    have l1 : 10 ^ (gX f n p).toNat < 4294967296 ^ K2 := ten_lt _ K2 (by omega) (by omega)
    have l2 : 10 ^ (-(gX f n p)).toNat < 4294967296 ^ K2 := ten_lt _ K2 (by omega) (by omega)
    have l3 := mul_ltD hN2 l1
    have l4 : 10 ^ (-(gX f n p)).toNat < 4294967296 ^ (K2 + K2) := Nat.lt_of_lt_of_le l2 (Nat.pow_le_pow_right (by omega) (by omega))
    have hp : 0 < 10 ^ (-(gX f n p)).toNat := Nat.pow_pos (by omega)
    have hB : (gB f n p).natAbs = 10 ^ (-(gX f n p)).toNat := by unfold gB vlB; rfl
    have hT : (gT f n p).natAbs = numOf (mL f n (gP f n p)) * 10 ^ (gX f n p).toNat := by unfold gT vlT; exact sgn_abs _ _
    have hU : (upZ (gT f n p) (gB f n p)).natAbs = (gT f n p).natAbs := by unfold upZ; split <;> simp only [Int.natAbs_neg]
    refine ⟨loQ_pos _ (by omega), K2 + K2, by omega, ?_, ?_⟩
    · have := loP_absle (upZ (gT f n p) (gB f n p)) (gB f n p).natAbs
      unfold nwP
      rw [hU, hT] at this
      exact Nat.lt_of_le_of_lt this l3
    · have := loQ_le (upZ (gT f n p) (gB f n p)) (gB f n p).natAbs
      unfold nwQ
      rw [hB] at this ⊢
      exact Nat.lt_of_le_of_lt this l4
  · rw [if_neg hk, if_neg hk]
    exact ⟨by omega, 1, by omega, by decide, by decide⟩

set_option linter.unusedSimpArgs false in
set_option maxHeartbeats 6400000 in
set_option maxRecDepth 100000 in
theorem deciReads_walk (a : Option Addr) (n c : Nat) (f : Nat → Int) (i : Int) (w : World) (h : KRow w .i32 a n c f) (hi : -9223372036854775808 ≤ i ∧ i ≤ 9223372036854775807) :
    Calls Tryz.prog 3 #[.slice a n c, .int .i64 i] w fun e w' => e = .returned (.bool true) ∧ Below w.heap.size w w' := by
  have hl := h.len
  have AW := Lib.hid (fun wz => awake4_any wz)
  by_cases h250 : n ≤ 250
  · have d1 : ¬ ((250 : Int) < n) := by omega
    have RD : Hid (∀ wz, KRow wz .i32 a n c f → Calls Tryz.prog 6 #[.slice a n c, .int .i64 i] wz fun e w' => RdTold wz w' e (gRP f n i) (gRQ f n i) (gRE f n i) (gRK f n i)) := Lib.hid (fun wz h => deRead_any a n c f i wz h hi)
    have RR := Lib.hid (fun wz (h : KRow wz .i32 a n c f) => r4Read_any a n c f i wz h hi h250)
    have BG := Lib.hid (fun wz (h : KRow wz .i32 a n c f) => begins_any a n c f i wz h hi)
    have RG := Lib.hid (fun wz (h : KRow wz .i32 a n c f) => r4Begins_any a n c f i wz h hi)
    obtain ⟨hQ, K, hK, hk1, hk2⟩ := rd_bds f n i
    have NMM : Hid (∀ a7 n7 c7 m7 a8 n8 c8 (wz : World), RatAt wz a7 n7 c7 m7 a8 n8 c8 (gRP f n i) (gRQ f n i) → Calls Tryz.prog 10 #[.agg #[.slice a7 n7 c7, .bool m7, .slice a8 n8 c8]] wz fun e w' => NumTold wz w' e (gRP f n i) (gRQ f n i)) := Lib.hid (fun a7 n7 c7 m7 a8 n8 c8 wz hz => num_any a7 n7 c7 m7 a8 n8 c8 _ _ wz hz hQ K hK hk1 hk2)
    unfold RdTold at RD
    unfold RdNum at RR
    unfold NumTold at NMM
    have BB := Lib.hid ((Bag.start w).krow h)
    generalize gRP f n i = P at *
    generalize gRQ f n i = Q at *
    generalize gRE f n i = E at *
    generalize gRK f n i = k at *
    generalize bgB f n i = bg at *
    generalize rB P = pb at *
    generalize rS P = ps at *
    generalize str (dec Q) = pt at *
    have e1 : (bg == bg) = true := by cases bg <;> rfl
    have e2 : (k == k) = true := by cases k <;> rfl
    have e3 : ((E : Int) == E) = true := beq_self_eq_true _
    clear h hi h250 hQ hk1 hk2
    go_enter Tryz.func3, Tryz.ntmps3
    go_wp2_with fail
    go_at_call 6
    (with_reducible refine (RD.out _ BB.out.now.1).mono ?_)
    rintro e w1 ⟨a1, n1, c1, m1, a2, n2, c2, rfl, hr1, hb1⟩
    have BB := Lib.hid (((BB.out.go hb1).rat hr1).box3 (.slice a1 n1 c1) (.bool m1) (.slice a2 n2 c2) 30)
    clear hr1 hb1
    go_wp2_with fail
    go_at_call 7
    (with_reducible refine (RR.out _ BB.out.now.2.2.1).mono ?_)
    rintro e w2 ⟨rfl, hb2⟩
    have BB := Lib.hid ((BB.out.go hb2).box3 (.bool pb) (.string ps) (.string pt) 34)
    clear hb2
    go_wp2_with fail
    have BB := Lib.hid BB.out.drew
    go_region_held3 (fun y => y.cell? ⟨w1.heap.size, 0, none⟩ = some (.slice a1 n1 c1) ∧ y.cell? ⟨w1.heap.size, 1, none⟩ = some (.bool m1) ∧ y.cell? ⟨w1.heap.size, 2, none⟩ = some (.slice a2 n2 c2) ∧ y.cell? ⟨w2.heap.size, 0, none⟩ = some (.bool pb) ∧ y.cell? ⟨w2.heap.size, 1, none⟩ = some (.string ps) ∧ y.cell? ⟨w2.heap.size, 2, none⟩ = some (.string pt))
      (exact ⟨BB.out.now.2.1.cell, BB.out.now.2.1.cell1, BB.out.now.2.1.cell2, BB.out.now.1.cell, BB.out.now.1.cell1, BB.out.now.1.cell2⟩)
      (first
        | (go_at_call 8; (with_reducible refine (BG.out _ BB.out.now.2.2.2.1).mono ?_); rintro e w3 ⟨rfl, rfl⟩)
        | (go_at_call 9; (with_reducible refine (RG.out _ BB.out.now.2.2.2.1).mono ?_); rintro e w3 ⟨rfl, rfl⟩)
        | (go_at_call 10; (with_reducible refine (NMM.out _ _ _ _ _ _ _ _ BB.out.now.2.2.1).mono ?_); rintro e w4 ⟨rfl, hb4⟩; have BB := Lib.hid (BB.out.go hb4))
        | (go_at_call 5; (refine (AW.out _).mono ?_); rintro e w5 ⟨rfl, hb5⟩; have BB := Lib.hid (BB.out.go hb5)))
    have HE := Lib.hid BB.out.below
    go_wp2
    go_ret
    exact ⟨rfl, HE.out⟩
  · have d1 : (250 : Int) < n := by omega
    clear h hi h250
    go_enter Tryz.func3, Tryz.ntmps3
    go_wp2_with fail
    go_at_call 5
    refine (AW.out _).mono ?_
    rintro e w16 ⟨rfl, hb1⟩
    have HE := Lib.hid hb1
    clear hb1
    go_wp2
    go_ret
    exact ⟨rfl, HE.out⟩

theorem own : ownKnob Tryz.prog.godebug = none := by kernel_rfl
theorem laidOut : laidOutB Tryz.prog = true := by kernel_rfl

set_option maxRecDepth 100000 in
theorem deciReads_lifted (os : Os) (started : os.Started) (H : Type) (enc : TypeId × Value → H) :
    ReturnsInHanded {} Tryz.checked os 3 .any (fun w args => (Rows.deciReadsSpec.pre enc Tryz.prog Tryz.f3 [] false w args ∧ laidMetH Tryz.prog Rows.deciReadsRow.laid w) ∧ sizedMet enc Tryz.prog Tryz.f3 (OpenSpec.ofChange Rows.deciReadsSpec) false w args)
      (Rows.deciReadsSpec.post enc Tryz.prog Tryz.f3 false true false false) := by
  refine returnsInHanded_of_change_and (C := Tryz.checked) (X := fun w _ => laidMetH Tryz.prog Rows.deciReadsRow.laid w) (fun _ _ _ hh h => h.of_heap hh) own started (by kernel_rfl) Tryz.func3
    (ChangeSpec.witness_shaped (enc := enc) (C := Tryz.checked) (os := os) (X := fun w _ => laidMetH Tryz.prog Rows.deciReadsRow.laid w) false (World.laidAll Tryz.prog os Rows.deciReadsRow.laid) #[.slice none 0 0, .int .i64 0] 8 (World.laidAll_os _ _ _)
      (World.shaped_of_ZipB (by kernel_rfl) (by kernel_rfl)) (by kernel_rfl) (by kernel_rfl) (by kernel_rfl)
      (by rw [MakeChecks.laidMetH_plain _ _ _ (by kernel_rfl)]; exact laidMet_laidAll _ (by kernel_rfl) (by kernel_rfl))) ?_
  intro W base args ds gs before hval0 hW _ _ _ _
  have hval : ∀ (j : Nat) t v, Tryz.f3.params[j]? = some t → args[j]? = some v → Value.okWide Tryz.prog W .any base t v := hval0
  have hW' := hW
  obtain ⟨p, q, hA0, hV, rfl, _, _⟩ := hW
  have hA : DataW.TrodAll enc Tryz.prog W 0 (fun _ => true) true Tryz.f3.params.toList args.toList ds p := hA0
  rw [Tryz.params3] at hA hval
  obtain ⟨v0, v1, d0, d1, p0, p1, rfl, rfl, rfl, h0, h1⟩ := trodAll_two hA
  obtain ⟨rfl, rfl⟩ := trodVars_none hV
  obtain ⟨a0, n0, c0, f0, rfl, k0, w0⟩ := open_krow (ki := .i32) Tryz.underlying22 Tryz.underlying21 (by kernel_rfl) (hval 0 22 v0 rfl rfl) h0
  obtain ⟨x1, rfl, rfl, rfl, w1⟩ := open_int Tryz.underlying3 (hval 1 3 v1 rfl rfl) h1
  have b1 : -9223372036854775808 ≤ x1 ∧ x1 ≤ 9223372036854775807 := by simpa [Lit.wf, IntKind.min, IntKind.max, IntKind.signed, IntKind.bits] using w1
  have hlt : ∀ y ∈ p0 ++ ([]), y.block < W.heap.size := fun y hy => by simpa using hW'.lt y (by simpa using hy)
  simp only [List.append_nil] at hW'
  refine (deciReads_walk a0 n0 c0 f0 x1 W k0 b1).mono fun e W' ⟨he, hb⟩ => ?_
  subst he
  exact ⟨_, rfl, _, _, _, [], _, [], hW', trodAll_mk1 (shut_bool Tryz.underlying4 _), trodAll_mk2 (Below.trod laidOut (by kernel_rfl) (of_decide_eq_true (by kernel_rfl)) h0 hb (fun y hy => hlt y (by simp [hy]))) (shut_int Tryz.underlying3 w1), rfl, hb.frame _, fun h => by cases h⟩

theorem deciReads_row : Rows.DeciReadsSaid :=
  OpenClaim.holds_of_wide 3 Tryz.f3 rfl rfl rfl rfl rfl rfl rfl ⟨rfl, rfl, rfl, rfl, rfl⟩ rfl rfl rfl rfl rfl (by kernel_rfl) Tryz.func3 (by kernel_rfl)
    (of_decide_eq_true (by kernel_rfl)) (by unfold Func.isWrapper; first | (rw [if_pos (by decide +kernel)]; kernel_rfl) | (rw [if_neg (by decide +kernel)]; exact ⟨rfl, rfl⟩))
    (fun os started H enc _ => deciReads_lifted os started H enc)

theorem deciReads_holds : Rows.DeciReadsCardSaid :=
  Claim7.holds_tied_plain_at .later [] [.data, .data, .data, .data, .sentinel, .sentinel, .pinned] true Rows.deciReadsCard.stood.harness Rows.deciReadsCard.stood.looks deciReads_row (fun _ h => by cases h) (by kernel_rfl) (fun _ h => by cases h) deciReads_row_tie rfl ⟨rfl, rfl⟩ (by kernel_rfl) rfl
    (fun f fn hf hfn => by
      obtain rfl : f = 3 := Option.some.inj ((show Tryz.prog.funcNamed "typeball/typeballlaw04.DeciReads" = some 3 by kernel_rfl).symm.trans hf) |>.symm
      obtain rfl : fn = Tryz.f3 := (Option.some.inj (Tryz.func3.symm.trans hfn)).symm
      exact ⟨by kernel_rfl, fun j t ht => by
        rw [Tryz.params3] at ht
        have hm : t ∈ [22, 3] := by simpa using Array.mem_of_getElem? ht
        have hall : ([22, 3].all fun u => !Tryz.prog.wantsStandIn u) = true := by kernel_rfl
        exact (show Tryz.prog.wantsStandIn t = false by simpa using List.all_eq_true.1 hall t hm)⟩)
    (by kernel_rfl)
#print axioms deciReads_holds
end Go.Proofs.YtgpcfncolhmgfaaGreatDoor
