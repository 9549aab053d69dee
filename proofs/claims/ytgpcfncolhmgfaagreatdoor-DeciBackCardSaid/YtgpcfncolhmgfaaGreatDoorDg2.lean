/-
  Package deci's reader: mantissa, exponent, by contract.
-/
import Derived.Test.YtgpcfncolhmgfaaGreatDoorDg1
import Derived.Lib.AtoiErrMem
namespace Go.Proofs.YtgpcfncolhmgfaaGreatDoor
open Go.RowKit

/-- The digits in front, whether a point follows, the digits behind it. -/
def mA (f : Nat → Int) (n p : Nat) : Nat := dgc f p (n - p)
def mD (f : Nat → Int) (n p : Nat) : Bool := skB f n (p + mA f n p) 46
def mB (f : Nat → Int) (n p : Nat) : Nat := if mD f n p then dgc f (p + mA f n p + 1) (n - (p + mA f n p + 1)) else 0
def mL (f : Nat → Int) (n p : Nat) : List UInt8 := dtx f p (mA f n p) ++ dtx f (p + mA f n p + 1) (mB f n p)
def mE (f : Nat → Int) (n p : Nat) : Nat := if mD f n p then p + mA f n p + 1 + mB f n p else p + mA f n p
def mK (f : Nat → Int) (n p : Nat) : Bool := !(mD f n p && decide (mB f n p = 0)) && (decide (0 < mA f n p + mB f n p) && decide (mA f n p + mB f n p ≤ 200))

def MantTold (k : Nat) (a : Option Addr) (n c : Nat) (f : Nat → Int) (w : World) (S : List UInt8) (N : Nat) (K : Bool) (E : Nat) (e : Ending) (w' : World) : Prop :=
  ∃ s N', e = .returned (.tuple #[.string s, .int .i64 (N' : Nat), .bool K]) ∧ (K = true → s = str S ∧ N' = N) ∧ RdrAt w' k a n c f E ∧ Away k w w'

set_option maxHeartbeats 1600000 in
set_option maxRecDepth 100000 in
theorem mantissa_any (k : Nat) (a : Option Addr) (n c : Nat) (f : Nat → Int) (p : Nat) (w : World) (h : RdrAt w k a n c f p) :
    Calls Tryz.prog 17 #[.pointer (some ⟨k, 0, none⟩)] w (MantTold k a n c f w (mL f n p) (mB f n p) (mK f n p) (mE f n p)) := by
  have hl := h.2.1.len
  have hm1 := dgc_le f (n - p) p
  have DG1 := Lib.hid (fun wz hz => digits4_any k a n c f p wz hz)
  have SK1 := Lib.hid (fun wz hz => skip_any k a n c f (p + dgc f p (n - p)) 46 wz hz)
  have DG2 := Lib.hid (fun wz hz => digits4_any k a n c f (p + dgc f p (n - p) + 1) wz hz)
  have hz1 := str_size (dtx f p (dgc f p (n - p)))
  rw [dtx_length] at hz1
  have hm2 := dgc_le f (n - (p + dgc f p (n - p) + 1)) (p + dgc f p (n - p) + 1)
  unfold MantTold mK mL mE mB mD mA
  generalize hml : dgc f p (n - p) = m1 at *
  have HR := Lib.hid h
  clear h hml
  cases hsk : skB f n (p + m1) 46 with
  | false =>
    rw [hsk, if_neg (by decide)] at SK1
    clear DG2 hsk hm2
    simp only [Bool.false_eq_true, if_false, Bool.false_and, Bool.not_false, Bool.true_and, Nat.add_zero]
    rw [show dtx f (p + m1 + 1) 0 = [] from rfl, List.append_nil]
    have HS1 := Lib.hid (show str (dtx f p m1) = str (dtx f p m1) from rfl)
    generalize hq : str (dtx f p m1) = s1 at *
    clear hq HS1
    generalize p + m1 = E at *
    by_cases h0 : 0 < m1
    · by_cases h1 : m1 ≤ 200
      · rw [decide_eq_true h0, decide_eq_true h1]
        have d1 : (0 : Int) < m1 := by omega
        have d2 : (m1 : Int) ≤ 200 := by omega
        clear hl hm1
        go_enter Tryz.func17, Tryz.ntmps17
        go_wp2_with fail
        go_at_call 43
        refine (DG1.out _ HR.out).mono ?_
        rintro e w2 ⟨rfl, hr2, haw2⟩
        have HR2 := Lib.hid hr2
        have AW2 := Lib.hid haw2
        clear hr2 haw2
        go_wp2_with fail
        go_at_call 16
        refine (SK1.out _ HR2.out).mono ?_
        rintro e w3 ⟨rfl, hr3, haw3⟩
        have HE := Lib.hid (And.intro hr3 (AW2.out.trans haw3))
        clear hr3 haw3
        go_wp2
        exact bodyPost_ret (v := .tuple #[.string s1, .int .i64 0, .bool true]) (by simp [results, Tryz.results17, go_sem] <;> omega) rfl ⟨_, 0, rfl, fun _ => ⟨rfl, rfl⟩, HE.out⟩
      · rw [decide_eq_true h0, decide_eq_false h1]
        have d1 : (0 : Int) < m1 := by omega
        have d2 : ¬ (m1 : Int) ≤ 200 := by omega
        clear hl hm1
        go_enter Tryz.func17, Tryz.ntmps17
        go_wp2_with fail
        go_at_call 43
        refine (DG1.out _ HR.out).mono ?_
        rintro e w2 ⟨rfl, hr2, haw2⟩
        have HR2 := Lib.hid hr2
        have AW2 := Lib.hid haw2
        clear hr2 haw2
        go_wp2_with fail
        go_at_call 16
        refine (SK1.out _ HR2.out).mono ?_
        rintro e w3 ⟨rfl, hr3, haw3⟩
        have HE := Lib.hid (And.intro hr3 (AW2.out.trans haw3))
        clear hr3 haw3
        go_wp2
        exact bodyPost_ret (v := .tuple #[.string s1, .int .i64 0, .bool false]) (by simp [results, Tryz.results17, go_sem] <;> omega) rfl ⟨_, 0, rfl, fun _ => ⟨rfl, rfl⟩, HE.out⟩
    · obtain rfl : m1 = 0 := by omega
      · rw [decide_eq_false h0, Bool.false_and]
        clear hl hm1
        go_enter Tryz.func17, Tryz.ntmps17
        go_wp2_with fail
        go_at_call 43
        refine (DG1.out _ HR.out).mono ?_
        rintro e w2 ⟨rfl, hr2, haw2⟩
        have HR2 := Lib.hid hr2
        have AW2 := Lib.hid haw2
        clear hr2 haw2
        go_wp2_with fail
        go_at_call 16
        refine (SK1.out _ HR2.out).mono ?_
        rintro e w3 ⟨rfl, hr3, haw3⟩
        have HE := Lib.hid (And.intro hr3 (AW2.out.trans haw3))
        clear hr3 haw3
        go_wp2
        exact bodyPost_ret (v := .tuple #[.string s1, .int .i64 0, .bool false]) (by simp [results, Tryz.results17, go_sem] <;> omega) rfl ⟨_, 0, rfl, fun _ => ⟨rfl, rfl⟩, HE.out⟩
  | true =>
    rw [hsk, if_pos rfl] at SK1
    clear hsk
    simp only [if_true, Bool.true_and]
    have hz2 := str_size (dtx f (p + m1 + 1) (dgc f (p + m1 + 1) (n - (p + m1 + 1))))
    rw [dtx_length] at hz2
    generalize dgc f (p + m1 + 1) (n - (p + m1 + 1)) = m2 at *
    have hbig : m1 + m2 < 9223372036854775808 := by omega
    rw [← str_append]
    generalize str (dtx f p m1) = s1 at *
    generalize str (dtx f (p + m1 + 1) m2) = s2 at *
    have hz12 : (s1 ++ s2).size = m1 + m2 := by rw [ByteArray.size_append, hz1, hz2]
    generalize p + m1 + 1 + m2 = E at *
    generalize p + m1 + 1 = E1 at *
    generalize p + m1 = E0 at *
    by_cases h2 : m2 = 0
    · rw [decide_eq_true h2, Bool.not_true, Bool.false_and]
      subst h2
      · clear hz12
        clear hl hm1 hm2
        go_enter Tryz.func17, Tryz.ntmps17
        go_wp2_with fail
        go_at_call 43
        refine (DG1.out _ HR.out).mono ?_
        rintro e w2 ⟨rfl, hr2, haw2⟩
        have HR2 := Lib.hid hr2
        have AW2 := Lib.hid haw2
        clear hr2 haw2
        go_wp2_with fail
        go_at_call 16
        refine (SK1.out _ HR2.out).mono ?_
        rintro e w3 ⟨rfl, hr3, haw3⟩
        have HR3 := Lib.hid hr3
        have AW3 := Lib.hid (AW2.out.trans haw3)
        clear hr3 haw3
        go_wp2_with fail
        go_at_call 43
        refine (DG2.out _ HR3.out).mono ?_
        rintro e w4 ⟨rfl, hr4, haw4⟩
        have HE := Lib.hid (And.intro hr4 (AW3.out.trans haw4))
        clear hr4 haw4
        go_wp2
        exact bodyPost_ret (v := .tuple #[.string ⟨#[]⟩, .int .i64 0, .bool false]) (by simp [results, Tryz.results17, go_sem] <;> omega) rfl ⟨_, 0, rfl, fun h => absurd h (by decide), HE.out⟩
    · have d0 : ((m2 : Int) == 0) = false := beq_eq_false_iff_ne.2 (by omega)
      rw [decide_eq_false h2, Bool.not_false, Bool.true_and]
      obtain ⟨m12, h12⟩ : ∃ m, m1 + m2 = m := ⟨_, rfl⟩
      rw [h12] at hz12 ⊢
      have d1 : (0 : Int) < m12 := by omega
      rw [decide_eq_true (show 0 < m12 by omega), Bool.true_and]
      generalize hs12 : s1 ++ s2 = s12 at *
      clear h12
      by_cases h1 : m12 ≤ 200
      · rw [decide_eq_true h1]
        have d2 : (m12 : Int) ≤ 200 := by omega
        clear h1 h2
        clear hl hm1 hm2
        go_enter Tryz.func17, Tryz.ntmps17
        go_wp2_with fail
        go_at_call 43
        refine (DG1.out _ HR.out).mono ?_
        rintro e w2 ⟨rfl, hr2, haw2⟩
        have HR2 := Lib.hid hr2
        have AW2 := Lib.hid haw2
        clear hr2 haw2
        go_wp2_with fail
        go_at_call 16
        refine (SK1.out _ HR2.out).mono ?_
        rintro e w3 ⟨rfl, hr3, haw3⟩
        have HR3 := Lib.hid hr3
        have AW3 := Lib.hid (AW2.out.trans haw3)
        clear hr3 haw3
        go_wp2_with fail
        go_at_call 43
        refine (DG2.out _ HR3.out).mono ?_
        rintro e w4 ⟨rfl, hr4, haw4⟩
        have HE := Lib.hid (And.intro hr4 (AW3.out.trans haw4))
        clear hr4 haw4
        go_wp2
        exact bodyPost_ret (v := .tuple #[.string s12, .int .i64 m2, .bool true]) (by simp [results, Tryz.results17, go_sem] <;> omega) rfl ⟨_, m2, rfl, fun _ => ⟨rfl, rfl⟩, HE.out⟩
      · rw [decide_eq_false h1]
        have d2 : ¬ (m12 : Int) ≤ 200 := by omega
        clear h1 h2
        clear hl hm1 hm2
        go_enter Tryz.func17, Tryz.ntmps17
        go_wp2_with fail
        go_at_call 43
        refine (DG1.out _ HR.out).mono ?_
        rintro e w2 ⟨rfl, hr2, haw2⟩
        have HR2 := Lib.hid hr2
        have AW2 := Lib.hid haw2
        clear hr2 haw2
        go_wp2_with fail
        go_at_call 16
        refine (SK1.out _ HR2.out).mono ?_
        rintro e w3 ⟨rfl, hr3, haw3⟩
        have HR3 := Lib.hid hr3
        have AW3 := Lib.hid (AW2.out.trans haw3)
        clear hr3 haw3
        go_wp2_with fail
        go_at_call 43
        refine (DG2.out _ HR3.out).mono ?_
        rintro e w4 ⟨rfl, hr4, haw4⟩
        have HE := Lib.hid (And.intro hr4 (AW3.out.trans haw4))
        clear hr4 haw4
        go_wp2
        exact bodyPost_ret (v := .tuple #[.string s12, .int .i64 m2, .bool false]) (by simp [results, Tryz.results17, go_sem] <;> omega) rfl ⟨_, m2, rfl, fun _ => ⟨rfl, rfl⟩, HE.out⟩

theorem dtx_dig {f : Nat → Int} {p m : Nat} (h : ∀ j, j < m → isD (f (p + j)) = true) {x : UInt8} (hx : x ∈ dtx f p m) : 48 ≤ x.toNat ∧ x.toNat ≤ 57 := by
  unfold dtx at hx
  obtain ⟨j, hj, rfl⟩ := List.mem_map.1 hx
  obtain ⟨h0, h1⟩ := isD_bds (h j (List.mem_range.1 hj))
  rw [UInt8.toNat_ofNat']
  omega
theorem decFrom_num : ∀ (l : List UInt8) (acc : Nat), (∀ x ∈ l, 48 ≤ x.toNat ∧ x.toNat ≤ 57) → Lib.decFrom acc l = some (acc * 10 ^ l.length + numOf l)
  | [], acc, _ => by simp [Lib.decFrom, numOf]
  | x :: l, acc, h => by
    have hx := h x (List.mem_cons_self ..)
    unfold Lib.decFrom Lib.digitVal
    rw [if_pos hx]
    show Lib.decFrom (acc * 10 + (x.toNat - 48)) l = _
    rw [decFrom_num l _ (fun y hy => h y (List.mem_cons_of_mem _ hy)), numOf, List.length_cons, Nat.pow_succ, Nat.add_mul, Nat.mul_assoc, Nat.mul_comm 10, Nat.add_assoc]
theorem atoi_num {l : List UInt8} (h0 : 0 < l.length) (h : ∀ x ∈ l, 48 ≤ x.toNat ∧ x.toNat ≤ 57) : Lib.atoi l = some (numOf l : Int) := by
  match l, h0, h with
  | x :: l, _, h =>
    have hx := h x (List.mem_cons_self ..)
    have h45 : (x == 45) = false := beq_eq_false_iff_ne.2 (fun e => by rw [e] at hx; exact absurd hx (by decide))
    have h43 : (x == 43) = false := beq_eq_false_iff_ne.2 (fun e => by rw [e] at hx; exact absurd hx (by decide))
    have := decFrom_num (x :: l) 0 h
    simp only [Lib.atoi, h45, h43, Lib.decNat, List.isEmpty_cons, Bool.false_eq_true, if_false, this, Nat.zero_mul, Nat.zero_add, Option.map_some]

/-- The exponent: E, High, where its digits stand, how many, its value. -/
def eY (f : Nat → Int) (n p : Nat) : Bool := skB f n p 69
def eN (f : Nat → Int) (n p : Nat) : Bool := skB f n (p + 1) 175
def eS (f : Nat → Int) (n p : Nat) : Nat := if eN f n p then p + 1 + 1 else p + 1
def eM (f : Nat → Int) (n p : Nat) : Nat := dgc f (eS f n p) (n - eS f n p)
def eK (f : Nat → Int) (n p : Nat) : Bool := !eY f n p || (decide (0 < eM f n p) && decide (eM f n p ≤ 3))
def eV (f : Nat → Int) (n p : Nat) : Int := if eY f n p then (if eN f n p then -(numOf (dtx f (eS f n p) (eM f n p)) : Int) else numOf (dtx f (eS f n p) (eM f n p))) else 0
def eE (f : Nat → Int) (n p : Nat) : Nat := if eY f n p then eS f n p + eM f n p else p

def ExpTold (k : Nat) (a : Option Addr) (n c : Nat) (f : Nat → Int) (w : World) (V : Int) (K : Bool) (E : Nat) (e : Ending) (w' : World) : Prop :=
  ∃ v, e = .returned (.tuple #[.int .i64 v, .bool K]) ∧ (K = true → v = V) ∧ RdrAt w' k a n c f E ∧ Away k w w'

set_option maxHeartbeats 1600000 in
set_option maxRecDepth 100000 in
theorem exponent_any (k : Nat) (a : Option Addr) (n c : Nat) (f : Nat → Int) (p : Nat) (w : World) (h : RdrAt w k a n c f p) :
    Calls Tryz.prog 18 #[.pointer (some ⟨k, 0, none⟩)] w (ExpTold k a n c f w (eV f n p) (eK f n p) (eE f n p)) := by
  have SK1 := Lib.hid (fun wz hz => skip_any k a n c f p 69 wz hz)
  have HR := Lib.hid h
  unfold eE eK eV eY ExpTold
  clear h
  cases hy : skB f n p 69 with
  | false =>
    rw [hy, if_neg (by decide)] at SK1
    simp only [Bool.false_eq_true, if_false, Bool.not_false, Bool.true_or]
    go_enter Tryz.func18, Tryz.ntmps18
    go_wp2_with fail
    go_at_call 16
    refine (SK1.out _ HR.out).mono ?_
    rintro e w2 ⟨rfl, hr2, haw2⟩
    have HE := Lib.hid (And.intro hr2 haw2)
    clear hr2 haw2
    go_wp2
    exact bodyPost_ret (v := .tuple #[.int .i64 0, .bool true]) (by simp [results, Tryz.results18, go_sem]) rfl ⟨_, rfl, fun _ => rfl, HE.out⟩
  | true =>
    rw [hy, if_pos rfl] at SK1
    simp only [if_true, Bool.not_true, Bool.false_or]
    clear hy
    have SK2 := Lib.hid (fun wz hz => skip_any k a n c f (p + 1) 175 wz hz)
    have DG := Lib.hid (fun wz hz => digits4_any k a n c f (eS f n p) wz hz)
    have hall : ∀ x ∈ dtx f (eS f n p) (dgc f (eS f n p) (n - eS f n p)), 48 ≤ x.toNat ∧ x.toNat ≤ 57 := fun x hx => dtx_dig (dgc_all f _ _) hx
    rw [show (if skB f n (p + 1) 175 then p + 1 + 1 else p + 1) = eS f n p from rfl] at SK2
    unfold eM eN
    generalize hneg : skB f n (p + 1) 175 = neg at *
    clear hneg
    generalize eS f n p = q at *
    have hlen := dtx_length f q (dgc f q (n - q))
    generalize dgc f q (n - q) = m at *
    generalize hl : dtx f q m = l at *
    clear hl
    have hz : (str l).size = m := by rw [str_size, hlen]
    generalize q + m = E at *
    by_cases h0 : m = 0
    · rw [decide_eq_false (show ¬ 0 < m by omega), Bool.false_and]
      subst h0
      generalize str l = s at *
      clear hall hlen
      go_enter Tryz.func18, Tryz.ntmps18
      go_wp2_with fail
      go_at_call 16
      refine (SK1.out _ HR.out).mono ?_
      rintro e w2 ⟨rfl, hr2, haw2⟩
      have HR2 := Lib.hid hr2
      have AW2 := Lib.hid haw2
      clear hr2 haw2
      go_wp2_with fail
      go_at_call 16
      refine (SK2.out _ HR2.out).mono ?_
      rintro e w3 ⟨rfl, hr3, haw3⟩
      have HR3 := Lib.hid hr3
      have AW3 := Lib.hid (AW2.out.trans haw3)
      clear hr3 haw3
      go_wp2_with fail
      go_at_call 43
      refine (DG.out _ HR3.out).mono ?_
      rintro e w4 ⟨rfl, hr4, haw4⟩
      have HE := Lib.hid (And.intro hr4 (AW3.out.trans haw4))
      clear hr4 haw4
      go_wp2
      all_goals exact bodyPost_ret (v := .tuple #[.int .i64 0, .bool false]) (by simp [results, Tryz.results18, go_sem]) rfl (by first | exact ⟨_, rfl, fun h => absurd h (by decide), HE.out⟩ | exact ⟨⟨_, rfl⟩, HE.out⟩)
    · rw [decide_eq_true (show 0 < m by omega), Bool.true_and]
      have d0 : ((m : Int) == 0) = false := beq_eq_false_iff_ne.2 (by omega)
      by_cases h3 : m ≤ 3
      · rw [decide_eq_true h3]
        have d1 : ¬ (3 : Int) < m := by omega
        have hat : Lib.atoi (str l).data.toList = some (numOf l : Int) := by
          rw [str_toList]; exact atoi_num (by omega) hall
        have AT := Lib.hid (fun wz => Tryz.strconv_Atoi (str l) _ (by omega) hat wz)
        have hlt := numOf_lt l hall
        have h1000 : (10 : Nat) ^ l.length ≤ 10 ^ 3 := Nat.pow_le_pow_right (by omega) (by omega)
        have hN : numOf l < 1000 := by omega
        have hr1 := IntWalk.i64_in (-(numOf l : Int)) (by omega)
        generalize numOf l = N at *
        generalize str l = s at *
        clear hall hlen hat hlt h1000 h3 h0
        cases neg with
        | true =>
          simp only [if_true]
          go_enter Tryz.func18, Tryz.ntmps18
          go_wp2_with fail
          go_at_call 16
          refine (SK1.out _ HR.out).mono ?_
          rintro e w2 ⟨rfl, hr2, haw2⟩
          have HR2 := Lib.hid hr2
          have AW2 := Lib.hid haw2
          clear hr2 haw2
          go_wp2_with fail
          go_at_call 16
          refine (SK2.out _ HR2.out).mono ?_
          rintro e w3 ⟨rfl, hr3, haw3⟩
          have HR3 := Lib.hid hr3
          have AW3 := Lib.hid (AW2.out.trans haw3)
          clear hr3 haw3
          go_wp2_with fail
          go_at_call 43
          refine (DG.out _ HR3.out).mono ?_
          rintro e w4 ⟨rfl, hr4, haw4⟩
          have HR4 := Lib.hid hr4
          have AW4 := Lib.hid (AW3.out.trans haw4)
          clear hr4 haw4
          go_wp2_with fail
          go_at_call 44
          refine (AT.out _).mono ?_
          rintro e w5 ⟨rfl, t, rfl⟩
          have HE : Hid (RdrAt (Lib.bytesWorld w4 5 t) k a n c f E ∧ Away k w (Lib.bytesWorld w4 5 t)) := by
            have hb := Lib.bytesWorld_below w4 5 t
            exact Lib.hid ⟨HR4.out.away (Away.of_below hb) (HR4.out.1.below hb) HR4.out.2.2.1, AW4.out.trans (Away.of_below hb)⟩
          generalize Lib.bytesWorld w4 5 t = w5 at *
          go_wp2
          exact bodyPost_ret (v := .tuple #[.int .i64 (-N), .bool true]) (by simp [results, Tryz.results18, go_sem]) rfl ⟨_, rfl, fun _ => rfl, HE.out⟩
        | false =>
          simp only [Bool.false_eq_true, if_false]
          go_enter Tryz.func18, Tryz.ntmps18
          go_wp2_with fail
          go_at_call 16
          refine (SK1.out _ HR.out).mono ?_
          rintro e w2 ⟨rfl, hr2, haw2⟩
          have HR2 := Lib.hid hr2
          have AW2 := Lib.hid haw2
          clear hr2 haw2
          go_wp2_with fail
          go_at_call 16
          refine (SK2.out _ HR2.out).mono ?_
          rintro e w3 ⟨rfl, hr3, haw3⟩
          have HR3 := Lib.hid hr3
          have AW3 := Lib.hid (AW2.out.trans haw3)
          clear hr3 haw3
          go_wp2_with fail
          go_at_call 43
          refine (DG.out _ HR3.out).mono ?_
          rintro e w4 ⟨rfl, hr4, haw4⟩
          have HR4 := Lib.hid hr4
          have AW4 := Lib.hid (AW3.out.trans haw4)
          clear hr4 haw4
          go_wp2_with fail
          go_at_call 44
          refine (AT.out _).mono ?_
          rintro e w5 ⟨rfl, t, rfl⟩
          have HE : Hid (RdrAt (Lib.bytesWorld w4 5 t) k a n c f E ∧ Away k w (Lib.bytesWorld w4 5 t)) := by
            have hb := Lib.bytesWorld_below w4 5 t
            exact Lib.hid ⟨HR4.out.away (Away.of_below hb) (HR4.out.1.below hb) HR4.out.2.2.1, AW4.out.trans (Away.of_below hb)⟩
          generalize Lib.bytesWorld w4 5 t = w5 at *
          go_wp2
          exact bodyPost_ret (v := .tuple #[.int .i64 N, .bool true]) (by simp [results, Tryz.results18, go_sem]) rfl ⟨_, rfl, fun _ => rfl, HE.out⟩
      · rw [decide_eq_false h3]
        have d1 : (3 : Int) < m := by omega
        generalize str l = s at *
        clear hall hlen
        go_enter Tryz.func18, Tryz.ntmps18
        go_wp2_with fail
        go_at_call 16
        refine (SK1.out _ HR.out).mono ?_
        rintro e w2 ⟨rfl, hr2, haw2⟩
        have HR2 := Lib.hid hr2
        have AW2 := Lib.hid haw2
        clear hr2 haw2
        go_wp2_with fail
        go_at_call 16
        refine (SK2.out _ HR2.out).mono ?_
        rintro e w3 ⟨rfl, hr3, haw3⟩
        have HR3 := Lib.hid hr3
        have AW3 := Lib.hid (AW2.out.trans haw3)
        clear hr3 haw3
        go_wp2_with fail
        go_at_call 43
        refine (DG.out _ HR3.out).mono ?_
        rintro e w4 ⟨rfl, hr4, haw4⟩
        have HE := Lib.hid (And.intro hr4 (AW3.out.trans haw4))
        clear hr4 haw4
        go_wp2
        all_goals exact bodyPost_ret (v := .tuple #[.int .i64 0, .bool false]) (by simp [results, Tryz.results18, go_sem]) rfl (by first | exact ⟨_, rfl, fun h => absurd h (by decide), HE.out⟩ | exact ⟨⟨_, rfl⟩, HE.out⟩)

end Go.Proofs.YtgpcfncolhmgfaaGreatDoor
