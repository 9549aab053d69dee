/-
  Proved: the law NatShifts of package typeballlaw01 returns true for every text and every number of 64 bits (statement NatShiftsCardSaid), under the row's own condition that the two listed tables of unicode/utf8 start as the program's text lays them.
-/
import Derived.Test.YtkjdoknmmiaapaaDoorLaw1
import Derived.Test.YtkjdoknmmiaapaaDoorNat26
import Derived.Test.YtkjdoknmmiaapaaDoorRef12
import Derived.Test.YtkjdoknmmiaapaaDoorRef10
import Derived.Test.YtkjdoknmmiaapaaDoorRef7
import Derived.Test.YtkjdoknmmiaapaaDoorCards
import Derived.Test.YtkjdoknmmiaapaaDoorTie
import Derived.ProofKit
import Derived.OpenShut
import Derived.LaidMore
import Derived.Lay
import Derived.SevenTiedAt
import Derived.Stop.Joined
namespace Go.Proofs.YtkjdoknmmiaapaaDoor
open Go.ChangeShapes Go.WideShapes Go.ChangeAt Go.RowKit Go.WideMaps Go.WideElems
open Go.ChangeMaps (open_string shut_string)
attribute [local go_sem ↓] Go.wp_at_zero Go.wp_at_succ

set_option maxRecDepth 100000 in
theorem natShifts_no (s : ByteArray) (n : Int) (w : World) (hs : s.size ≤ maxLen) (h : 120 < s.size ∨ okB s.data.toList = false) :
    Calls Tryd.prog 8 #[.string s, .int .i64 n] w fun e w' => e = .returned (.bool true) ∧ Below w.heap.size w w' := by
  have HR := Lib.hid (fun wz => read_no s wz hs h)
  clear h
  go_enter Tryd.func8, Tryd.ntmps8
  go_wp2_with fail
  go_at_call 31
  refine (HR.out _).mono ?_
  rintro e w1 ⟨rfl, hb1⟩
  have HB1 := Lib.hid (hb1.alloc hb1.size (.cells #[.slice none 0 0] 25))
  clear hb1
  go_wp2_with fail
  go_at_call 15
  refine (awake_any _).mono ?_
  rintro e w2 ⟨rfl, hb2⟩
  have HB2 := Lib.hid (HB1.out.trans (hb2.mono HB1.out.size))
  clear hb2
  go_wp2
  go_ret
  exact ⟨rfl, HB2.out⟩

theorem two_lim {k : Nat} (h : k ≤ 300) : 2 ^ k ≤ 4294967296 ^ 10 := by
  have h1 := Nat.pow_le_pow_right (show 0 < 2 by omega) (show k ≤ 32 * 10 by omega)
  obtain ⟨e, he⟩ : ∃ e, e = 10 := ⟨_, rfl⟩
  rw [← he] at h1 ⊢
  rw [Nat.pow_mul] at h1
  exact h1

set_option maxHeartbeats 6400000 in
set_option maxRecDepth 100000 in
theorem natShifts_yes (s : ByteArray) (n : Int) (w : World) (hs : s.size ≤ 120) (h1 : okB s.data.toList = true) (hn : -9223372036854775808 ≤ n ∧ n ≤ 9223372036854775807) :
    Calls Tryd.prog 8 #[.string s, .int .i64 n] w fun e w' => e = .returned (.bool true) ∧ Below w.heap.size w w' := by
  have RS := Lib.hid (fun wz => read_yes s wz hs h1)
  obtain ⟨b1, d1⟩ := read_bound hs h1
  generalize numOf s.data.toList = N at *
  unfold ReadYes at RS
  have l1 := lim120 b1
  by_cases h300 : 300 < n
  · have e300 : decide ((300 : Int) < n) = true := decide_eq_true h300
    generalize str (dec N) = x at *
    clear h300 b1 d1 l1 h1 hs hn
    go_enter Tryd.func8, Tryd.ntmps8
    go_wp2_with fail
    go_at_call 31
    (with_reducible refine (RS.out _).mono ?_)
    rintro e w1 ⟨a, l, c, rfl, _, hb1⟩
    have BB := Lib.hid (((Bag.start w).go hb1).alloc (.cells #[.slice a l c] 25))
    clear hb1
    go_wp2_with fail
    go_at_call 15
    refine (awake_any _).mono ?_
    rintro e w2 ⟨rfl, hb2⟩
    have BB := Lib.hid (BB.out.go hb2)
    clear hb2
    go_wp2
    go_ret
    exact ⟨rfl, BB.out.below⟩
  · have e300 : decide ((300 : Int) < n) = false := decide_eq_false h300
    have hn2 : -9223372036854775808 ≤ n ∧ n ≤ 1000 := by omega
    have hmax : max n 0 = ((shN n : Nat) : Int) := by unfold shN; omega
    have hk : shN n ≤ 300 := by unfold shN; omega
    have SL0 := fun (wz : World) a l c (h : NatIs wz (.agg #[.slice a l c]) N) => shl_any a l c N n wz h hn2 13 (by omega) l1
    have SR0 := fun (wz : World) a l c (h : NatIs wz (.agg #[.slice a l c]) N) => shr_any a l c N n wz h hn
    have SB0 := fun (wz : World) a l c (h : NatIs wz (.agg #[.slice a l c]) (N * 2 ^ shN n)) => shr_any a l c _ n wz h hn
    obtain ⟨k, hkk⟩ : ∃ k, shN n = k := ⟨_, rfl⟩
    rw [hkk] at hmax hk SL0 SR0 SB0
    have h2k : 0 < 2 ^ k := Nat.pow_pos (by omega)
    rw [Nat.mul_div_cancel _ h2k] at SB0
    have lz : N * 2 ^ k < 4294967296 ^ 23 := by
      rw [show (23 : Nat) = 13 + 10 from rfl, pow_add32]
      exact Nat.lt_of_lt_of_le (Nat.mul_lt_mul_of_pos_right l1 h2k) (Nat.mul_le_mul_left _ (two_lim hk))
    have lq : N / 2 ^ k < 4294967296 ^ 13 := Nat.lt_of_le_of_lt (Nat.div_le_self _ _) l1
    have d2 := dl_two k
    have RT0 := fun wz => rtwo_any k wz (by omega)
    have RM0 : ∀ wz, Calls Tryd.prog 41 #[.string (str (dec N)), .string (str (dec (2 ^ k)))] wz fun e w' => e = .returned (.string (str (dec (N * 2 ^ k)))) ∧ Below wz.heap.size wz w' := fun wz => rmul_any N (dl N) (2 ^ k) (dl (2 ^ k)) wz (dl_lt _) (dl_lt _) (by omega) (by omega)
    have RD0 := fun wz => rdivMod_any N (2 ^ k) wz (by omega) (by omega) h2k
    have T1 : ∀ wz a l c, NatIs wz (.agg #[.slice a l c]) (N * 2 ^ k) → Calls Tryd.prog 21 #[.agg #[.slice a l c]] wz fun e w' => e = .returned (.string (str (dec (N * 2 ^ k)))) ∧ Below wz.heap.size wz w' := fun wz a l c h => text_any _ _ wz h 23 (by omega) lz
    have T2 : ∀ wz a l c, NatIs wz (.agg #[.slice a l c]) (N / 2 ^ k) → Calls Tryd.prog 21 #[.agg #[.slice a l c]] wz fun e w' => e = .returned (.string (str (dec (N / 2 ^ k)))) ∧ Below wz.heap.size wz w' := fun wz a l c h => text_any _ _ wz h 13 (by omega) lq
    have CN : Hid (∀ wz a n c a2 n2 c2, NatIs wz (.agg #[.slice a n c]) N → NatIs wz (.agg #[.slice a2 n2 c2]) N → Calls Tryd.prog 37 #[.agg #[.slice a n c], .agg #[.slice a2 n2 c2]] wz fun e w' => e = .returned (.int .i64 0) ∧ Below wz.heap.size wz w') := fun wz a n c a2 n2 c2 h g => by
      have := cmp_any _ _ N N wz h g
      rw [show cmpI N N = 0 by unfold cmpI; rw [if_neg (by omega), if_pos rfl]] at this; exact this
    obtain ⟨P, hP⟩ : ∃ P, N * 2 ^ k = P := ⟨_, rfl⟩
    obtain ⟨Q, hQ⟩ : ∃ Q, N / 2 ^ k = Q := ⟨_, rfl⟩
    rw [hP] at SL0 SB0 RM0 T1
    rw [hQ] at SR0 RD0 T2
    obtain ⟨x, hx⟩ : ∃ x, str (dec N) = x := ⟨_, rfl⟩
    obtain ⟨t, ht⟩ : ∃ t, str (dec (2 ^ k)) = t := ⟨_, rfl⟩
    obtain ⟨z, hz⟩ : ∃ z, str (dec P) = z := ⟨_, rfl⟩
    obtain ⟨q, hq⟩ : ∃ q, str (dec Q) = q := ⟨_, rfl⟩
    obtain ⟨r, hr⟩ : ∃ r, str (dec (N % 2 ^ k)) = r := ⟨_, rfl⟩
    rw [hx] at RS RM0 RD0
    rw [ht] at RT0 RM0 RD0
    rw [hz] at RM0 T1
    rw [hq] at RD0 T2
    rw [hr] at RD0
    have SL := Lib.hid SL0
    have SR := Lib.hid SR0
    have SB := Lib.hid SB0
    have RT := Lib.hid RT0
    have RM := Lib.hid RM0
    have RD := Lib.hid RD0
    have TP := Lib.hid T1
    have TQ := Lib.hid T2
    have zz : (z.toList == z.toList) = true := by simp
    have qq : (q.toList == q.toList) = true := by simp
    clear SL0 SR0 SB0 RT0 RM0 RD0 T1 T2 hkk h2k lz lq d2 hP hQ hx ht hz hq hr b1 d1 l1 h1 hs hn hn2 h300
    go_enter Tryd.func8, Tryd.ntmps8
    go_wp2_with fail
    go_at_call 31
    (with_reducible refine (RS.out _).mono ?_)
    rintro e w1 ⟨a, l, c, rfl, hi1, hb1⟩
    have BB := Lib.hid ((((Bag.start w).go hb1).nat hi1).box (.slice a l c) 25)
    clear hb1 hi1
    go_wp2_with fail
    go_at_call 44
    (with_reducible refine (RT.out _).mono ?_)
    rintro e w2 ⟨rfl, hb2⟩
    have BB := Lib.hid (BB.out.go hb2)
    clear hb2
    go_wp2_with fail
    go_at_call 40
    (with_reducible refine (RD.out _).mono ?_)
    rintro e w3 ⟨rfl, hb2⟩
    have BB := Lib.hid (BB.out.go hb2)
    clear hb2
    have HC : Hid (∀ y, (fun y => Slot y w1.heap.size (.slice a l c) ∧ NatIs y (.agg #[.slice a l c]) N ∧ True) y → y.cell? ⟨w1.heap.size, 0, none⟩ = some (.slice a l c)) := fun y h => h.1.cell
    go_wp2_with fail
    go_region_held3 (fun y => y.cell? ⟨w1.heap.size, 0, none⟩ = some (.slice a l c) ∧ Bag w (fun y => Slot y w1.heap.size (.slice a l c) ∧ NatIs y (.agg #[.slice a l c]) N ∧ True) y)
      ((refine (fun h => ⟨HC.out _ h.now, h⟩ : Bag w (fun y => Slot y w1.heap.size (.slice a l c) ∧ NatIs y (.agg #[.slice a l c]) N ∧ True) _ → _) ?_; (first | exact BB.out.drew | exact Bag.go (show Bag w (fun y => Slot y w1.heap.size (.slice a l c) ∧ NatIs y (.agg #[.slice a l c]) N ∧ True) _ from by go_split_ands; assumption) hbz)))
      (first
        | (go_at_call 45; (with_reducible refine (SL.out _ a l c ?_).mono ?_); exact (show Bag w (fun y => Slot y w1.heap.size (.slice a l c) ∧ NatIs y (.agg #[.slice a l c]) N ∧ True) _ from by go_split_ands; assumption).now.2.1; rintro e wy ⟨a5, n5, c5, rfl, hi5, hbz⟩)
        | (go_at_call 46; (with_reducible refine (SR.out _ a l c ?_).mono ?_); exact (show Bag w (fun y => Slot y w1.heap.size (.slice a l c) ∧ NatIs y (.agg #[.slice a l c]) N ∧ True) _ from by go_split_ands; assumption).now.2.1; rintro e wy ⟨a6, n6, c6, rfl, hi6, hbz⟩)
        | (go_at_call 46; (with_reducible refine (SB.out _ a5 n5 c5 hi5).mono ?_); rintro e wy ⟨a7, n7, c7, rfl, hi7, hbz⟩)
        | (go_at_call 21; (with_reducible refine (TP.out _ a5 n5 c5 hi5).mono ?_); rintro e wy ⟨rfl, hbz⟩)
        | (go_at_call 21; (with_reducible refine (TQ.out _ a6 n6 c6 hi6).mono ?_); rintro e wy ⟨rfl, hbz⟩)
        | (go_at_call 44; (with_reducible refine (RT.out _).mono ?_); rintro e wy ⟨rfl, hbz⟩)
        | (go_at_call 41; (with_reducible refine (RM.out _).mono ?_); rintro e wy ⟨rfl, hbz⟩)
        | (go_at_call 37; (with_reducible refine (CN.out _ a7 n7 c7 a l c hi7 ?_).mono ?_); exact (show Bag w (fun y => Slot y w1.heap.size (.slice a l c) ∧ NatIs y (.agg #[.slice a l c]) N ∧ True) _ from by go_split_ands; assumption).now.2.1; rintro e wy ⟨rfl, hbz⟩)
        | (go_at_call 15; refine (awake_any _).mono ?_; rintro e wy ⟨rfl, hbz⟩))
    have B5 := Lib.hid (show Bag w (fun y => Slot y w1.heap.size (.slice a l c) ∧ NatIs y (.agg #[.slice a l c]) N ∧ True) _ from by go_split_ands; assumption)
    go_wp2
    go_ret
    exact ⟨rfl, B5.out.below⟩

theorem natShifts_walk (s : ByteArray) (n : Int) (w : World) (hs : s.size ≤ maxLen) (hn : -9223372036854775808 ≤ n ∧ n ≤ 9223372036854775807) :
    Calls Tryd.prog 8 #[.string s, .int .i64 n] w fun e w' => e = .returned (.bool true) ∧ Below w.heap.size w w' := by
  rcases Nat.lt_or_ge 120 s.size with h | h
  · exact natShifts_no s n w hs (.inl h)
  · cases ho : okB s.data.toList with
    | false => exact natShifts_no s n w hs (.inr ho)
    | true => exact natShifts_yes s n w h ho hn

theorem own : ownKnob Tryd.prog.godebug = none := by kernel_rfl

set_option maxRecDepth 100000 in
theorem natShifts_lifted (os : Os) (started : os.Started) (H : Type) (enc : TypeId × Value → H) :
    ReturnsInHanded {} Tryd.checked os 8 .any (fun w args => (Rows.natShiftsSpec.pre enc Tryd.prog Tryd.f8 [] false w args ∧ laidMetH Tryd.prog Rows.natShiftsRow.laid w) ∧ sizedMet enc Tryd.prog Tryd.f8 (OpenSpec.ofChange Rows.natShiftsSpec) false w args)
      (Rows.natShiftsSpec.post enc Tryd.prog Tryd.f8 false true false false) := by
  refine returnsInHanded_of_change_and (C := Tryd.checked) (X := fun w _ => laidMetH Tryd.prog Rows.natShiftsRow.laid w) (fun _ _ _ hh h => h.of_heap hh) own started (by kernel_rfl) Tryd.func8
    (ChangeSpec.witness_shaped (enc := enc) (C := Tryd.checked) (os := os) (X := fun w _ => laidMetH Tryd.prog Rows.natShiftsRow.laid w) false (World.laidAll Tryd.prog os Rows.natShiftsRow.laid) #[.string ⟨#[]⟩, .int .i64 0] 8 (World.laidAll_os _ _ _)
      (World.shaped_of_ZipB (by kernel_rfl) (by kernel_rfl)) (by kernel_rfl) (by kernel_rfl) (by kernel_rfl)
      (by rw [MakeChecks.laidMetH_plain _ _ _ (by kernel_rfl)]; exact laidMet_laidAll _ (by kernel_rfl) (by kernel_rfl))) ?_
  intro W base args ds gs before hval0 hW _ _ _ _
  have hval : ∀ (j : Nat) t v, Tryd.f8.params[j]? = some t → args[j]? = some v → Value.okWide Tryd.prog W .any base t v := hval0
  have hW' := hW
  obtain ⟨p, q, hA0, hV, rfl, _, _⟩ := hW
  have hA : DataW.TrodAll enc Tryd.prog W 0 (fun _ => true) true Tryd.f8.params.toList args.toList ds p := hA0
  rw [Tryd.params8] at hA hval
  obtain ⟨v0, v1, d0, d1, p0, p1, rfl, rfl, rfl, h0, h1⟩ := trodAll_two hA
  obtain ⟨rfl, rfl⟩ := trodVars_none hV
  obtain ⟨x0, rfl, rfl, rfl, b0⟩ := open_string Tryd.underlying9 (hval 0 9 v0 rfl rfl) h0
  obtain ⟨x1, rfl, rfl, rfl, w1⟩ := open_int Tryd.underlying3 (hval 1 3 v1 rfl rfl) h1
  have b1 : -9223372036854775808 ≤ x1 ∧ x1 ≤ 9223372036854775807 := by simpa [Lit.wf, IntKind.min, IntKind.max, IntKind.signed, IntKind.bits] using w1
  simp only [List.append_nil] at hW'
  refine (natShifts_walk x0 x1 W b0 b1).mono fun e W' ⟨he, hb⟩ => ?_
  subst he
  exact ⟨_, rfl, _, _, _, [], [], [], hW', trodAll_mk1 (shut_bool Tryd.underlying4 _), trodAll_mk2 (shut_string Tryd.underlying9 b0) (shut_int Tryd.underlying3 w1), rfl, hb.frame _, fun h => by cases h⟩

theorem natShifts_row : Rows.NatShiftsSaid :=
  OpenClaim.holds_of_wide 8 Tryd.f8 rfl rfl rfl rfl rfl rfl rfl ⟨rfl, rfl, rfl, rfl, rfl⟩ rfl rfl rfl rfl rfl (by kernel_rfl) Tryd.func8 (by kernel_rfl)
    (of_decide_eq_true (by kernel_rfl)) (by unfold Func.isWrapper; first | (rw [if_pos (by decide +kernel)]; kernel_rfl) | (rw [if_neg (by decide +kernel)]; exact ⟨rfl, rfl⟩))
    (fun os started H enc _ => natShifts_lifted os started H enc)

theorem natShifts_holds : Rows.NatShiftsCardSaid :=
  Claim7.holds_tied_plain_at .later [] [.data, .pinned] true Rows.natShiftsCard.stood.harness false natShifts_row (fun _ h => by cases h) (by kernel_rfl) (fun _ h => by cases h) natShifts_row_tie rfl ⟨rfl, rfl⟩ (by kernel_rfl) rfl
    (fun f fn hf hfn => by
      obtain rfl : f = 8 := Option.some.inj ((show Tryd.prog.funcNamed "typeball/typeballlaw01.NatShifts" = some 8 by kernel_rfl).symm.trans hf) |>.symm
      obtain rfl : fn = Tryd.f8 := (Option.some.inj (Tryd.func8.symm.trans hfn)).symm
      exact ⟨by kernel_rfl, fun j t ht => by
        rw [Tryd.params8] at ht
        have hm : t ∈ [9, 3] := by simpa using Array.mem_of_getElem? ht
        have hall : ([9, 3].all fun u => !Tryd.prog.wantsStandIn u) = true := by kernel_rfl
        exact (show Tryd.prog.wantsStandIn t = false by simpa using List.all_eq_true.1 hall t hm)⟩)
    (by kernel_rfl)
#print axioms natShifts_holds
end Go.Proofs.YtkjdoknmmiaapaaDoor
