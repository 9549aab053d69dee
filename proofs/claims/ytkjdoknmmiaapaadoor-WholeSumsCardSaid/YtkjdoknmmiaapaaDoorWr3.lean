/-
  The document's answers (package typeballref02): Small, Read, by contract; package typeballlaw02: read.
-/
import Derived.Test.YtkjdoknmmiaapaaDoorWr1
import Derived.Test.YtkjdoknmmiaapaaDoorRef4
import Derived.Test.YtkjdoknmmiaapaaDoorNat19
namespace Go.Proofs.YtkjdoknmmiaapaaDoor
open Go.RowKit
attribute [local go_sem ↓] Go.wp_at_zero Go.wp_at_succ

set_option maxHeartbeats 1600000 in
set_option maxRecDepth 100000 in
theorem rSmall_any (Z : Int) (w : World) (hl : dl Z.natAbs ≤ 1000) :
    Calls Tryd.prog 52 #[.agg #[.bool (rB Z), .string (rS Z)]] w fun e w' => e = .returned (.tuple #[.int .i64 (fitI Z), .bool (fitB Z)]) ∧ Below w.heap.size w w' := by
  have B0 := ((Bag.start w).box2 (.bool (rB Z)) (.string (rS Z)) 62)
  have q0 := B0.now.1.cell
  have q1 := B0.now.1.cell1
  have hu := fun wz => runi_any Z.natAbs wz hl
  rw [show str (dec Z.natAbs) = rS Z from rfl] at hu
  have BB := Lib.hid B0
  obtain ⟨N, hN⟩ : ∃ N, Z.natAbs = N := ⟨_, rfl⟩
  rw [hN] at hu
  unfold uI at hu
  generalize rS Z = s at *
  by_cases hbig : N < 18446744073709551616
  · rw [if_pos hbig, decide_eq_true hbig] at hu
    have HU := Lib.hid hu
    clear hu B0
    by_cases hz : Z < 0
    · rw [show rB Z = true from decide_eq_true hz] at *
      have hZN : Z = -(N : Int) := by omega
      by_cases h63 : N ≤ 9223372036854775808
      · have HE : Hid (fitI Z = -(N : Int) ∧ fitB Z = true) := by
          have : fitB Z = true := decide_eq_true (by omega)
          exact ⟨by unfold fitI; rw [this, if_pos rfl]; exact hZN, this⟩
        have d2 : decide ((9223372036854775808 : Int) < (N : Int)) = false := decide_eq_false (by omega)
        obtain ⟨N1, hN1⟩ : ∃ N1, N - 1 = N1 := ⟨_, rfl⟩
        have e1 : (N : Int) - 1 = (N1 : Int) := by omega
        have b1 : (N1 : Int) ≤ 9223372036854775807 := by omega
        have b2 : (1 : Int) ≤ (N : Int) := by omega
        have e2 : 0 - (N1 : Int) = -(N1 : Int) := by omega
        have e3 : -(N1 : Int) - 1 = -(N : Int) := by omega
        clear hz hZN hN hbig h63 hN1 hl
        go_enter Tryd.func52, Tryd.ntmps52
        go_wp2_with (go_at_call 20; (with_reducible refine (HU.out _).mono ?_); rintro e w2 ⟨rfl, rfl⟩)
        go_ret2
        exact ⟨ret_ib (by rw [HE.out.1]) HE.out.2.symm, BB.out.below⟩
      · have HE : Hid (fitI Z = 0 ∧ fitB Z = false) := by
          have : fitB Z = false := decide_eq_false (by omega)
          exact ⟨by unfold fitI; rw [this]; rfl, this⟩
        have d2 : decide ((9223372036854775808 : Int) < (N : Int)) = true := decide_eq_true (by omega)
        clear hz hZN hN hbig h63 hl
        go_enter Tryd.func52, Tryd.ntmps52
        go_wp2_with (go_at_call 20; (with_reducible refine (HU.out _).mono ?_); rintro e w2 ⟨rfl, rfl⟩)
        go_ret2
        exact ⟨ret_ib HE.out.1.symm HE.out.2.symm, BB.out.below⟩
    · rw [show rB Z = false from decide_eq_false hz] at *
      have hZN : Z = (N : Int) := by omega
      by_cases h63 : N ≤ 9223372036854775807
      · have HE : Hid (fitI Z = (N : Int) ∧ fitB Z = true) := by
          have : fitB Z = true := decide_eq_true (by omega)
          exact ⟨by unfold fitI; rw [this, if_pos rfl]; exact hZN, this⟩
        have d1 : decide ((9223372036854775807 : Int) < (N : Int)) = false := decide_eq_false (by omega)
        have hl' : (N : Int) ≤ 9223372036854775807 := by omega
        clear hz hZN hN hbig h63 hl
        go_enter Tryd.func52, Tryd.ntmps52
        go_wp2_with (go_at_call 20; (with_reducible refine (HU.out _).mono ?_); rintro e w2 ⟨rfl, rfl⟩)
        go_ret2
        exact ⟨ret_ib HE.out.1.symm HE.out.2.symm, BB.out.below⟩
      · have HE : Hid (fitI Z = 0 ∧ fitB Z = false) := by
          have : fitB Z = false := decide_eq_false (by omega)
          exact ⟨by unfold fitI; rw [this]; rfl, this⟩
        have d1 : decide ((9223372036854775807 : Int) < (N : Int)) = true := decide_eq_true (by omega)
        clear hz hZN hN hbig h63 hl
        go_enter Tryd.func52, Tryd.ntmps52
        go_wp2_with (go_at_call 20; (with_reducible refine (HU.out _).mono ?_); rintro e w2 ⟨rfl, rfl⟩)
        go_ret2
        exact ⟨ret_ib HE.out.1.symm HE.out.2.symm, BB.out.below⟩
  · rw [if_neg hbig, decide_eq_false hbig] at hu
    have HU := Lib.hid hu
    have HE : Hid (fitI Z = 0 ∧ fitB Z = false) := by
      have : fitB Z = false := decide_eq_false (by omega)
      exact ⟨by unfold fitI; rw [this]; rfl, this⟩
    clear hu hbig hN B0 hl
    generalize rB Z = b at *
    go_enter Tryd.func52, Tryd.ntmps52
    go_wp2_with (go_at_call 20; (with_reducible refine (HU.out _).mono ?_); rintro e w2 ⟨rfl, rfl⟩)
    go_ret2
    exact ⟨ret_ib HE.out.1.symm HE.out.2.symm, BB.out.below⟩

/-- Does a text begin with a hyphen, and what stands behind it. -/
def rdN (l : List UInt8) : Bool := l.head? == some 45
def rdL (l : List UInt8) : List UInt8 := if rdN l then l.tail else l
def rdO (l : List UInt8) : Bool := okB (rdL l)
def rdZ (l : List UInt8) : Int := if rdO l then sgn (rdN l) (numOf (rdL l)) else 0

/-- What Read tells. -/
def ReadR (w w' : World) (e : Ending) (l : List UInt8) : Prop := e = .returned (.tuple #[.agg #[.bool (rB (rdZ l)), .string (rS (rdZ l))], .bool (rdO l)]) ∧ Below w.heap.size w w'

set_option maxHeartbeats 1600000 in
set_option maxRecDepth 100000 in
theorem rRead_any (s : ByteArray) (w : World) (hs : s.size ≤ maxLen) : Calls Tryd.prog 91 #[.string s] w fun e w' => ReadR w w' e s.data.toList := by
  have BB := Lib.hid ((Bag.start w).box2 (.bool false) (.string ⟨#[]⟩) 62)
  obtain ⟨b, hb⟩ : ∃ b, rdN s.data.toList = b := ⟨_, rfl⟩
  obtain ⟨t, ht⟩ : ∃ t : ByteArray, t.data.toList = rdL s.data.toList ∧ t.size ≤ maxLen ∧ (if b then s.extract 1 s.size = t else t = s) := by
    cases b with
    | true =>
      refine ⟨s.extract 1 s.size, ?_, ?_, rfl⟩
      · rw [Lib.extract_data]
        unfold rdL; rw [hb, if_pos rfl]
        show List.take (s.data.toList.length - 1) (List.drop 1 s.data.toList) = _
        rw [List.take_of_length_le (by rw [List.length_drop]; exact Nat.le_refl _)]
        simp
      · rw [ByteArray.size_extract]; omega
    | false => exact ⟨s, by unfold rdL; rw [hb]; rfl, hs, rfl⟩
  obtain ⟨hd, htl, hts⟩ := ht
  have RG := Lib.hid (fun wz => right_any t wz htl)
  obtain ⟨o, ho⟩ : ∃ o, rdO s.data.toList = o := ⟨_, rfl⟩
  rw [hd, show okB (rdL s.data.toList) = o from ho] at RG
  have HRR : Hid (∀ wz, o = true → Calls Tryd.prog 93 #[.bool b, .string t] wz fun e w' => RTold wz w' e (rdZ s.data.toList)) := by
    intro wz hoo
    have hk : okB (rdL s.data.toList) = true := by rw [← hoo]; exact ho
    obtain ⟨g1, g2, g3⟩ := okB_digs hk
    have h1 := rOf_any b (numOf (rdL s.data.toList)) (rdL s.data.toList).length wz g1 (numOf_lt _ g3) (by omega)
    rw [sdig_numOf _ g3, ← hd, str_of (s := t) rfl |>.symm] at h1
    have e : rdZ s.data.toList = sgn b (numOf t.data.toList) := by unfold rdZ; rw [ho, hoo, if_pos rfl, hb, hd]
    rw [e]; exact h1
  have HN : Hid (o = false → rB (rdZ s.data.toList) = false ∧ rS (rdZ s.data.toList) = ⟨#[48]⟩) := by
    intro hoo
    have e : rdZ s.data.toList = 0 := by unfold rdZ; rw [ho, hoo]; rfl
    rw [e]; exact ⟨rfl, by unfold rS; rw [show (0 : Int).natAbs = 0 from rfl, dec_zero]; rfl⟩
  have hF : ∀ w' e, (e = .returned (.tuple #[.agg #[.bool (rB (rdZ s.data.toList)), .string (rS (rdZ s.data.toList))], .bool o]) ∧ Below w.heap.size w w') → ReadR w w' e s.data.toList := fun w' e h => by
    unfold ReadR; rw [ho]; exact h
  have HF := Lib.hid hF
  obtain ⟨Y, hY⟩ : ∃ Y, rdZ s.data.toList = Y := ⟨_, rfl⟩
  rw [hY] at HRR HN HF
  have hbc : (s.size = 0 ∧ b = false) ∨ (∃ h : 0 < s.size, b = decide (s[0] = 45)) := by
    rcases Nat.eq_zero_or_pos s.size with h0 | h0
    · left
      refine ⟨h0, ?_⟩
      have : s.data.toList = [] := List.eq_nil_of_length_eq_zero h0
      rw [← hb, this]; rfl
    · right
      refine ⟨h0, ?_⟩
      have hne : s.data.toList = s[0] :: s.data.toList.tail := by
        have h2 : 0 < s.data.toList.length := h0
        cases hl : s.data.toList with
        | nil => rw [hl] at h2; simp at h2
        | cons x xs =>
          have : s[0] = s.data.toList[0] := rfl
          rw [this]; simp [hl]
      rw [← hb, hne]
      unfold rdN
      simp only [List.head?_cons]
      rw [Bool.eq_iff_iff]; simp
  clear hF hd hb ho hY htl
  unfold maxLen at hs
  suffices h : Calls Tryd.prog 91 #[.string s] w (fun e w' => (e = .returned (.tuple #[.agg #[.bool (rB Y), .string (rS Y)], .bool o]) ∧ Below w.heap.size w w')) from h.mono fun e w' h => HF.out w' e h
  cases o with
  | true =>
    have OF : Hid (∀ wz, Calls Tryd.prog 93 #[.bool b, .string t] wz fun e w' => RTold wz w' e Y) := fun wz => HRR.out wz rfl
    clear HRR HN HF
    rcases hbc with ⟨h0, rfl⟩ | ⟨h0, hb⟩
    · obtain rfl : t = s := by simpa using hts
      clear hts
      have d0 : decide ((0 : Int) < (t.size : Int)) = false := decide_eq_false (by omega)
      go_enter Tryd.func91, Tryd.ntmps91
      go_wp2_with (go_at_call 17; (with_reducible refine (RG.out _).mono ?_); rintro e w2 ⟨rfl, rfl⟩)
      go_at_call 93
      (with_reducible refine (OF.out _).mono ?_)
      rintro e w3 ⟨rfl, hb3⟩
      have B3 := BB.out.go hb3
      have hs3 := B3.now.1
      have hc1 := hs3.cell
      have hc2 := hs3.cell1
      have hf1 := hs3.free
      have hf2 := hs3.free1
      have HS := hs3.set (.bool (rB Y)) (.string (rS Y))
      have HE := Lib.hid (RTold.fin (Y := Y) B3.below (Nat.le_refl _) rfl rfl).2
      unfold put2 at HE
      clear hb3 B3 hs3
      go_wp2
      exact bodyPost_ret (v := .tuple #[.agg #[.bool (rB Y), .string (rS Y)], .bool true]) (by simp [results, Tryd.results91, go_sem, HS]) rfl ⟨rfl, HE.out⟩
    · have d0 : decide ((0 : Int) < (s.size : Int)) = true := decide_eq_true (by omega)
      obtain ⟨c, hc⟩ : ∃ c, s[0] = c := ⟨_, rfl⟩
      rw [hc] at hb
      by_cases h45 : c = 45
      · rw [decide_eq_true h45] at hb
        subst hb
        rw [if_pos rfl] at hts
        have d2 : ((c.toNat : Int) == 45) = true := by rw [h45]; rfl
        clear h45
        go_enter Tryd.func91, Tryd.ntmps91
        go_wp2_with (go_at_call 17; (with_reducible refine (RG.out _).mono ?_); rintro e w2 ⟨rfl, rfl⟩)
        go_at_call 93
        (with_reducible refine (OF.out _).mono ?_)
        rintro e w3 ⟨rfl, hb3⟩
        have B3 := BB.out.go hb3
        have hs3 := B3.now.1
        have hc1 := hs3.cell
        have hc2 := hs3.cell1
        have hf1 := hs3.free
        have hf2 := hs3.free1
        have HS := hs3.set (.bool (rB Y)) (.string (rS Y))
        have HE := Lib.hid (RTold.fin (Y := Y) B3.below (Nat.le_refl _) rfl rfl).2
        unfold put2 at HE
        clear hb3 B3 hs3
        go_wp2
        exact bodyPost_ret (v := .tuple #[.agg #[.bool (rB Y), .string (rS Y)], .bool true]) (by simp [results, Tryd.results91, go_sem, HS]) rfl ⟨rfl, HE.out⟩
      · rw [decide_eq_false h45] at hb
        subst hb
        rw [if_neg (by decide)] at hts
        subst hts
        have d2 : ((c.toNat : Int) == 45) = false := by
          rw [beq_eq_false_iff_ne]
          intro h; apply h45; rw [← UInt8.toNat_inj]
          show c.toNat = 45
          omega
        clear h45
        go_enter Tryd.func91, Tryd.ntmps91
        go_wp2_with (go_at_call 17; (with_reducible refine (RG.out _).mono ?_); rintro e w2 ⟨rfl, rfl⟩)
        go_at_call 93
        (with_reducible refine (OF.out _).mono ?_)
        rintro e w3 ⟨rfl, hb3⟩
        have B3 := BB.out.go hb3
        have hs3 := B3.now.1
        have hc1 := hs3.cell
        have hc2 := hs3.cell1
        have hf1 := hs3.free
        have hf2 := hs3.free1
        have HS := hs3.set (.bool (rB Y)) (.string (rS Y))
        have HE := Lib.hid (RTold.fin (Y := Y) B3.below (Nat.le_refl _) rfl rfl).2
        unfold put2 at HE
        clear hb3 B3 hs3
        go_wp2
        exact bodyPost_ret (v := .tuple #[.agg #[.bool (rB Y), .string (rS Y)], .bool true]) (by simp [results, Tryd.results91, go_sem, HS]) rfl ⟨rfl, HE.out⟩
  | false =>
    have hn := HN.out rfl
    rw [hn.1, hn.2]
    clear HRR HN HF hn
    rcases hbc with ⟨h0, rfl⟩ | ⟨h0, hb⟩
    · obtain rfl : t = s := by simpa using hts
      clear hts
      have d0 : decide ((0 : Int) < (t.size : Int)) = false := decide_eq_false (by omega)
      go_enter Tryd.func91, Tryd.ntmps91
      go_wp2_with (go_at_call 17; (with_reducible refine (RG.out _).mono ?_); rintro e w2 ⟨rfl, rfl⟩)
      exact bodyPost_ret (v := .tuple #[.agg #[.bool false, .string ⟨#[48]⟩], .bool false]) (by simp [results, Tryd.results91, go_sem]) rfl ⟨rfl, (Below.refl _ _).alloc (Nat.le_refl _) _⟩
    · have d0 : decide ((0 : Int) < (s.size : Int)) = true := decide_eq_true (by omega)
      obtain ⟨c, hc⟩ : ∃ c, s[0] = c := ⟨_, rfl⟩
      rw [hc] at hb
      by_cases h45 : c = 45
      · rw [decide_eq_true h45] at hb
        subst hb
        rw [if_pos rfl] at hts
        have d2 : ((c.toNat : Int) == 45) = true := by rw [h45]; rfl
        clear h45
        go_enter Tryd.func91, Tryd.ntmps91
        go_wp2_with (go_at_call 17; (with_reducible refine (RG.out _).mono ?_); rintro e w2 ⟨rfl, rfl⟩)
        exact bodyPost_ret (v := .tuple #[.agg #[.bool false, .string ⟨#[48]⟩], .bool false]) (by simp [results, Tryd.results91, go_sem]) rfl ⟨rfl, (Below.refl _ _).alloc (Nat.le_refl _) _⟩
      · rw [decide_eq_false h45] at hb
        subst hb
        rw [if_neg (by decide)] at hts
        subst hts
        have d2 : ((c.toNat : Int) == 45) = false := by
          rw [beq_eq_false_iff_ne]
          intro h; apply h45; rw [← UInt8.toNat_inj]
          show c.toNat = 45
          omega
        clear h45
        go_enter Tryd.func91, Tryd.ntmps91
        go_wp2_with (go_at_call 17; (with_reducible refine (RG.out _).mono ?_); rintro e w2 ⟨rfl, rfl⟩)
        exact bodyPost_ret (v := .tuple #[.agg #[.bool false, .string ⟨#[48]⟩], .bool false]) (by simp [results, Tryd.results91, go_sem]) rfl ⟨rfl, (Below.refl _ _).alloc (Nat.le_refl _) _⟩

end Go.Proofs.YtkjdoknmmiaapaaDoor
