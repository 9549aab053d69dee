/-
  Package nat: divideLong, by contract: quotient and rest of two numbers in rows of their own.
-/
import Derived.IntWalk
import Derived.Test.YtkjdoknmmiaapaaDoorNat11
namespace Go.Proofs.YtkjdoknmmiaapaaDoor
open Go.RowKit

theorem LongInv.start {w w4 : World} {rb bb an1 bn m X D : Nat} {z : List Value} (hr : Own w w4 rb an1 X) (hd : Own w w4 bb bn D) (hb : Below w.heap.size w w4) (hne : bb ≠ rb) (hz0 : ∀ j, j < m → z[j]? = some (.int .u32 0))
    (hX : X < D * 4294967296 ^ m) (hbn : bn ≤ 1000000) : ∃ d, val d bn = D ∧ LongInv w (w4.alloc (.cells z.toArray 86)) rb w4.heap.size bb an1 bn m d X D 0 := by
  have hal : Below w4.heap.size w4 (w4.alloc (.cells z.toArray 86)) := (Below.refl _ _).alloc (Nat.le_refl _) _
  have hnew := heap_new w4 (.cells z.toArray 86)
  obtain ⟨d, hd1, hd2⟩ := hd.slAt hbn
  obtain ⟨r, hr1, hr2, hr3⟩ := hr.row
  refine ⟨d, hd2, hb.alloc hb.size _, hr.ge, hb.size, ?_, ?_, ?_, hne, ?_, hr.free.below hal hr.lt, Free.of_block hnew, hd1.below hal, r, fun _ => 0, hr1.below hal hr.lt, hr2, Cells.of_block hnew hz0, fun _ _ => by show 0 < _; omega, ?_, ?_⟩
  · have := hr.lt; simp; omega
  · simp
  · have := hr.lt; omega
  · have := hd.lt; omega
  · rw [hr3]; exact hX
  · rw [hr3, Nat.sub_zero, seg_self _ _ _ (Nat.le_refl _)]; omega

theorem LongInv.last {w wr : World} {rb qb bb an1 bn m : Nat} {d : Nat → Nat} {X D : Nat} (h : LongInv w wr rb qb bb an1 bn m d X D m) (hD : D < 4294967296 ^ bn) (hbn : bn ≤ an1) :
    Own w wr rb bn (X % D) ∧ Own w wr qb m (X / D) := by
  obtain ⟨r, q, h1, h2, h3, h4, h5, h6⟩ := h.rows
  rw [Nat.sub_self] at h5 h6
  rw [seg_zero] at h6
  rw [Nat.pow_zero, Nat.mul_one] at h5
  have hv := val_low r hbn (by omega)
  rw [hv] at h5 h6
  have e1 : X / D = val q m := by
    rw [h6, Nat.add_comm, Nat.mul_add_div (by omega), Nat.div_eq_of_lt h5, Nat.add_zero]
  have e2 : X % D = val r bn := by
    rw [h6, Nat.add_comm, Nat.mul_add_mod, Nat.mod_eq_of_lt h5]
  exact ⟨⟨h.rb_ge, h.rb_lt, h.freeR, r, fun j hj => h1 j (by omega), fun j hj => h2 j (by omega), e2.symm⟩, ⟨h.qb_ge, h.qb_lt, h.freeQ, q, h3, h4, e1.symm⟩⟩

/-- The two rows of a long division. -/
def LongEnd (w w' : World) (e : Ending) (m bn an1 A B : Nat) : Prop := ∃ qb rb, e = .returned (.tuple #[.slice (some ⟨qb, 0, none⟩) m m, .slice (some ⟨rb, 0, none⟩) bn an1]) ∧ Own w w' qb m (A / B) ∧ Own w w' rb bn (A % B) ∧ Below w.heap.size w w'

set_option maxHeartbeats 1600000 in
set_option maxRecDepth 100000 in
theorem divideLong_any (aa : Option Addr) (an ac : Nat) (a : Nat → Nat) (ba : Option Addr) (bn bc : Nat) (b : Nat → Nat) (w : World) (ha : SlAt w .u32 4294967296 aa an ac a) (hb : SlAt w .u32 4294967296 ba bn bc b)
    (h2 : 2 ≤ bn) (hba : bn ≤ an) (htop : 0 < b (bn - 1)) (han : an + 1 ≤ 1000000) :
    Calls Tryd.prog 84 #[.slice aa an ac, .slice ba bn bc] w fun e w' => LongEnd w w' e (an + 1 - bn) bn (an + 1) (val a an) (val b bn) := by
  obtain ⟨b0, bo, rfl, _, _⟩ := hb.at (by omega)
  obtain ⟨n1, hn1⟩ : ∃ n1, bn - 1 = n1 := ⟨_, rfl⟩
  obtain ⟨m, hm⟩ : ∃ m, an + 1 - bn = m := ⟨_, rfl⟩
  obtain ⟨an1, han1⟩ : ∃ x, an + 1 = x := ⟨_, rfl⟩
  rw [hm, han1]
  rw [hn1] at htop
  obtain ⟨hcl, hll⟩ := hb.cell (show n1 < bn by omega)
  obtain ⟨u, hu1, hu2, hlz⟩ := lz_any (b n1) htop hll
  have hB := up_room (s := b) (n := bn) (u := u) (by omega) hb.2.2.1 (by rw [hn1]; exact hu2)
  have hA : val a an * 2 ^ u < 4294967296 ^ an1 := by
    have h1 := val_lt a an ha.2.2.1
    have h3 : (2 : Nat) ^ u ≤ 2 ^ 32 := Nat.pow_le_pow_right (by omega) (by omega)
    have h4 : val a an * 2 ^ u < 4294967296 ^ an * 2 ^ u := Nat.mul_lt_mul_of_pos_right h1 (Nat.two_pow_pos u)
    have h5 : 4294967296 ^ an * 2 ^ u ≤ 4294967296 ^ an * 2 ^ 32 := Nat.mul_le_mul_left _ h3
    rw [← han1, pow_succ32, Nat.mul_comm 4294967296]
    omega
  have hXD : val a an * 2 ^ u < val b bn * 2 ^ u * 4294967296 ^ m := by
    have h1 := val_lt a an ha.2.2.1
    have h3 := val_top b bn (by omega) (by rw [hn1]; omega)
    rw [hn1] at h3
    have h4 : 4294967296 ^ n1 * 4294967296 ^ m ≤ val b bn * 4294967296 ^ m := Nat.mul_le_mul_right _ h3
    rw [← pow_add32, show n1 + m = an by omega] at h4
    have h5 : val b bn * 2 ^ u * 4294967296 ^ m = val b bn * 4294967296 ^ m * 2 ^ u := by rw [Nat.mul_assoc, Nat.mul_comm (2 ^ u), ← Nat.mul_assoc]
    rw [h5]
    exact Nat.mul_lt_mul_of_pos_right (by omega) (Nat.two_pow_pos u)
  have hcb := fun W (hW : SlAt W .u32 4294967296 (some ⟨b0, bo, none⟩) bn bc b) => copied_own (some ⟨b0, bo, none⟩) bn bc b bn W hW (Nat.le_refl _) (by omega)
  have hca := fun W (hW : SlAt W .u32 4294967296 aa an ac a) => copied_own aa an ac a an1 W hW (by omega) (by omega)
  obtain ⟨z, hz1, hz2, hmk⟩ := make_u32 m (by omega)
  obtain ⟨A, hAe⟩ : ∃ A, val a an = A := ⟨_, rfl⟩
  obtain ⟨B, hBe⟩ : ∃ B, val b bn = B := ⟨_, rfl⟩
  rw [hAe] at hA hXD hca ⊢
  rw [hBe] at hB hXD hcb ⊢
  have e1 : (bn : Int) - 1 = (n1 : Int) := by omega
  have e2 : (an : Int) + 1 = (an1 : Int) := by omega
  have e3 : (an1 : Int) - (bn : Int) = (m : Int) := by omega
  have i1 : (n1 : Int) < (bn : Int) := by omega
  have htp : 4294967296 ^ (bn - 1) ≤ B * 2 ^ u := by
    have h3 := val_top b bn (by omega) (by rw [hn1]; omega)
    rw [hBe] at h3
    exact Nat.le_trans h3 (Nat.le_mul_of_pos_right _ (Nat.two_pow_pos u))
  have HTP := Lib.hid htp
  have HCB := Lib.hid hcb
  have HCA := Lib.hid hca
  have HLZ := Lib.hid hlz
  have HSA := Lib.hid ha
  have HSB := Lib.hid hb
  have HB := Lib.hid hB
  have HA := Lib.hid hA
  have HXD := Lib.hid hXD
  have HZ1 := Lib.hid hz1
  have HZ2 := Lib.hid hz2
  have HU2 := Lib.hid hu2
  have HM : Hid (m + bn = an1) := by show _ = _; omega
  have hml : m ≤ 1000000 := by omega
  have hbl : bn ≤ 1000000 := by omega
  have hal : an1 ≤ 1000000 := by omega
  have hmb : bn ≤ an1 := by omega
  clear htp hcb hca hlz ha hb hB hA hXD hz1 hz2 hu2 hAe hBe hm han1 hn1 htop hll
  go_enter Tryd.func84, Tryd.ntmps84
  go_wp2_with (go_at_call 103; refine (HLZ.out _).mono ?_; rintro e w1 ⟨rfl, rfl⟩)
  go_at_call 73
  refine (HCB.out _ HSB.out).mono ?_
  rintro e w1 ⟨bb, rfl, ho1, hb1⟩
  have HO1 := Lib.hid ho1
  have HB1 := Lib.hid hb1
  clear ho1 hb1
  go_wp2_with fail
  go_at_call 87
  refine (shiftUp_own w bb bn bn B u w1 HO1.out hbl hu1 HB.out).mono ?_
  rintro e w2 ⟨rfl, ho2, hw2⟩
  have HO2 := Lib.hid ho2
  have HB2 := Lib.hid (hw2.below HB1.out HO1.out.ge HB1.out.size)
  clear ho2 hw2
  go_wp2_with fail
  go_at_call 73
  refine (HCA.out w2 (HSA.out.below HB2.out)).mono ?_
  rintro e w3 ⟨rb, rfl, ho3, hb3⟩
  have hne : bb ≠ rb := by have := ho3.ge; have := HO2.out.lt; omega
  have HNE := Lib.hid hne
  have HO3 : Own w w3 rb an1 A := ⟨Nat.le_trans HB2.out.size ho3.ge, ho3.lt, ho3.free, ho3.row⟩
  have HO3' := Lib.hid HO3
  have HO2' := Lib.hid (HO2.out.below hb3)
  have HB3 := Lib.hid (HB2.out.trans (hb3.mono HB2.out.size))
  clear ho3 hb3 hne HO3
  go_wp2_with fail
  go_at_call 87
  refine (shiftUp_own w rb an1 an1 A u w3 HO3'.out hal hu1 HA.out).mono ?_
  rintro e w4 ⟨rfl, ho4, hw4⟩
  have HO4 := Lib.hid ho4
  have HOD := Lib.hid (HO2'.out.wrote hw4 HNE.out)
  have HB4 := Lib.hid (hw4.below HB3.out HO3'.out.ge HB3.out.size)
  clear ho4 hw4 HO2 HO2' HO1 HB1 HB2 HB3 HO3'
  obtain ⟨d, hdv, hst⟩ := LongInv.start (z := z) HO4.out HOD.out HB4.out HNE.out HZ2.out HXD.out hbl
  obtain ⟨qb, hqb⟩ : ∃ qb, w4.heap.size = qb := ⟨_, rfl⟩
  rw [hqb] at hst
  have HST := Lib.hid hst
  have HDV := Lib.hid hdv
  have HDT : Hid (0 < d (bn - 1)) := by
    rcases Nat.eq_zero_or_pos (d (bn - 1)) with h | h
    · exfalso
      obtain ⟨k, hk⟩ : ∃ k, bn = k + 1 := ⟨bn - 1, by omega⟩
      have h1 := hdv
      rw [hk, val] at h1
      rw [hk, Nat.add_sub_cancel] at h
      rw [h, Nat.zero_mul, Nat.add_zero] at h1
      have h3 := val_lt d k (fun j hj => hst.div.2.2.1 j (by omega))
      have h4 := HTP.out
      rw [hk, Nat.add_sub_cancel] at h4
      omega
    · exact h
  clear hst hdv HO4 HOD HB4
  go_wp2_with fail
  go_loopw [42] (fun i wr => ∃ k : Nat, k ≤ m ∧ i = .int .i64 k ∧ LongInv w wr rb qb bb an1 bn m d (A * 2 ^ u) (B * 2 ^ u) k)
    (fun i _ => m - (intOf i).toNat)
  case atStart => exact ⟨0, by omega, rfl, HST.out⟩
  case round =>
    obtain ⟨k, hk, rfl, hr⟩ := hrel
    by_cases hlt : k < m
    · obtain ⟨f, hf1, hf2, hf3⟩ := hr.part hlt HM.out HB.out hal
      have hfr := hr.freeR
      have hfq := hr.freeQ
      have hdi := hr.div
      obtain ⟨t, ht⟩ : ∃ t, m - 1 - k = t := ⟨_, rfl⟩
      rw [ht] at hf1 hf3
      have htd := takeDigit_any rb t (an1 - t) (some ⟨bb, 0, none⟩) bn (bn - 2) bn f d wr (by omega) hf1 hfr hdi (fun x hx => by cases hx; exact hr.rbb) HDT.out (by rw [HDV.out]; exact hf2)
      rw [HDV.out] at htd
      have hqc : ∃ q0, Cells wr .u32 qb 0 m q0 := by obtain ⟨r, q, _, _, h, _⟩ := hr.rows; exact ⟨q, h⟩
      have t1 : (m : Int) - 1 - (k : Int) = (t : Int) := by omega
      have t2 : (t : Int) < (m : Int) := by omega
      have t0 : (0 : Int) ≤ (t : Int) := by omega
      have t3 : t + (bn + 1) ≤ an1 := by have := HM.out; omega
      have HTD := Lib.hid htd
      have HF3 := Lib.hid hf3
      have HRR := Lib.hid hr
      have HQC := Lib.hid hqc
      clear htd hf3 hr hqc ht hf1 hf2 hfr hfq hdi
      go_wp2_with fail
      rw [show t + bn + 1 - t = bn + 1 by omega]
      go_at_call 104
      refine HTD.out.mono ?_
      rintro e w5 ⟨q, rfl, hq1, hq2, hrow⟩
      have hnx := HF3.out w5 q hq2 hq1 hrow
      have hfz : w5.frozen? ⟨qb, t, none⟩ = false := (HRR.out.freeQ.wrote hrow.1 HRR.out.qb_lt) t
      obtain ⟨q0, hq0⟩ := HQC.out
      have hcw := (hq0.wrote hrow.1 HRR.out.qb_lt (fun e => absurd e.symm HRR.out.rq)) t (by omega)
      rw [Nat.zero_add] at hcw
      have HNX := Lib.hid hnx
      clear hnx hrow hq2 hq0
      go_wp2
      go_roundw
      case rel => exact ⟨k + 1, by omega, by go_num, HNX.out⟩
      case measure => simp [intOf]; omega
    · obtain rfl : k = m := by omega
      obtain ⟨hor, hoq⟩ := hr.last HB.out hmb
      have HOR := Lib.hid hor
      have HOQ := Lib.hid hoq
      have HBL := Lib.hid hr.below
      have HRQ := Lib.hid hr.rq
      clear hor hoq hr
      go_wp2_with fail
      go_at_call 88
      refine (shiftDown_own w rb bn an1 (A * 2 ^ u % (B * 2 ^ u)) u wr HOR.out hmb hal hu1).mono ?_
      rintro e w6 ⟨rfl, ho6, hw6⟩
      have HE : LongEnd w w6 (.returned (.tuple #[.slice (some ⟨qb, 0, none⟩) k k, .slice (some ⟨rb, 0, none⟩) bn an1])) k bn an1 A B := by
        refine ⟨qb, rb, rfl, ?_, ?_, hw6.below HBL.out HOR.out.ge HBL.out.size⟩
        · have := HOQ.out.wrote hw6 (Ne.symm HRQ.out)
          rw [Nat.mul_div_mul_right _ _ (Nat.two_pow_pos u)] at this
          exact this
        · rw [Nat.mul_mod_mul_right, Nat.mul_div_cancel _ (Nat.two_pow_pos u)] at ho6
          exact ho6
      clear ho6 hw6
      go_wp2
      go_ret2
      exact HE

end Go.Proofs.YtkjdoknmmiaapaaDoor
