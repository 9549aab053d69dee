/-
  Proved: the law NatSums of package typeballlaw01 returns true for every two texts (statement NatSumsCardSaid), under the row's own condition that the two listed tables of unicode/utf8 start as the program's text lays them.
-/
import Derived.Test.YtimihhnnhpejcaaDoorLaw1
import Derived.Test.YtimihhnnhpejcaaDoorCards
import Derived.Test.YtimihhnnhpejcaaDoorTie
import Derived.ProofKit
import Derived.OpenShut
import Derived.LaidMore
import Derived.Lay
import Derived.SevenTiedAt
import Derived.Stop.Joined
namespace Go.Proofs.YtimihhnnhpejcaaDoor
open Go.ChangeShapes Go.WideShapes Go.ChangeAt Go.RowKit Go.WideMaps Go.WideElems
open Go.ChangeMaps (open_string shut_string)

def rd (s : ByteArray) : Bool := decide (s.size ≤ 120) && okB s.data.toList
def ReadAny (w w' : World) (e : Ending) (b : Bool) : Prop := ∃ a n c D, e = .returned (.tuple #[.agg #[.slice a n c], .string D, .bool b]) ∧ Below w.heap.size w w'
theorem read_any (s : ByteArray) (w : World) (hs : s.size ≤ maxLen) : Calls Tryd.prog 26 #[.string s] w fun e w' => ReadAny w w' e (rd s) := by
  by_cases h : s.size ≤ 120
  · cases ho : okB s.data.toList with
    | true =>
      refine (read_yes s w h ho).mono ?_
      rintro e w' ⟨a, n, c, rfl, _, hb⟩
      exact ⟨a, n, c, _, by unfold rd; rw [decide_eq_true h, ho]; rfl, hb⟩
    | false =>
      refine (read_no s w hs (.inr ho)).mono ?_
      rintro e w' ⟨rfl, hb⟩
      exact ⟨_, _, _, _, by unfold rd; rw [ho, Bool.and_false], hb⟩
  · refine (read_no s w hs (.inl (by omega))).mono ?_
    rintro e w' ⟨rfl, hb⟩
    exact ⟨_, _, _, _, by unfold rd; rw [decide_eq_false h]; rfl, hb⟩

set_option maxHeartbeats 1600000 in
set_option maxRecDepth 100000 in
theorem natSums_a (s t : ByteArray) (w : World) (hs : s.size ≤ maxLen) (ht : t.size ≤ maxLen) (h1 : 120 < s.size) :
    Calls Tryd.prog 5 #[.string s, .string t] w fun e w' => e = .returned (.bool true) ∧ Below w.heap.size w w' := by
  have RS := Lib.hid (fun wz => read_any s wz hs)
  have RT := Lib.hid (fun wz => read_any t wz ht)
  have GS := Lib.hid (fun wz => right_any s wz hs)
  have GT := Lib.hid (fun wz => right_any t wz ht)
  unfold maxLen at hs ht
  have e1 : rd s = false := by unfold rd; rw [decide_eq_false (by omega)]; rfl
  rw [e1] at RS
  obtain ⟨y, hy⟩ : ∃ y, rd t = y := ⟨_, rfl⟩
  rw [hy] at RT
  have q1 : decide ((120 : Int) < (s.size : Int)) = true := decide_eq_true (by omega)
  clear e1 hy
  go_enter Tryd.func5, Tryd.ntmps5
  go_wp2_with fail
  go_at_call 26
  refine (RS.out _).mono ?_
  rintro e w1 ⟨a, n, c, D, rfl, hbb1⟩
  have HB1 := Lib.hid (hbb1.alloc hbb1.size (.cells #[.slice a n c] 25))
  clear hbb1
  go_wp2_with fail
  go_at_call 26
  refine (RT.out _).mono ?_
  rintro e w2 ⟨a2, n2, c2, D2, rfl, hbb2⟩
  have hx := HB1.out.trans (hbb2.mono HB1.out.size)
  have HB2 := Lib.hid (hx.alloc hx.size (.cells #[.slice a2 n2 c2] 25))
  clear hbb2 hx
  go_wp2_with fail
  go_at_call 10
  refine (awake_any _).mono ?_
  rintro e w3 ⟨rfl, hb3⟩
  have HB3 := Lib.hid (HB2.out.trans (hb3.mono HB2.out.size))
  clear hb3
  go_wp2
  go_ret
  exact ⟨rfl, HB3.out⟩

set_option maxHeartbeats 1600000 in
set_option maxRecDepth 100000 in
theorem natSums_b (s t : ByteArray) (w : World) (hs : s.size ≤ maxLen) (ht : t.size ≤ maxLen) (h1 : ¬ 120 < s.size) (h2 : 120 < t.size) (h3 : rd s = true) :
    Calls Tryd.prog 5 #[.string s, .string t] w fun e w' => e = .returned (.bool true) ∧ Below w.heap.size w w' := by
  have RS := Lib.hid (fun wz => read_any s wz hs)
  have RT := Lib.hid (fun wz => read_any t wz ht)
  have GS := Lib.hid (fun wz => right_any s wz hs)
  have GT := Lib.hid (fun wz => right_any t wz ht)
  unfold maxLen at hs ht
  have e2 : rd t = false := by unfold rd; rw [decide_eq_false (by omega)]; rfl
  rw [e2] at RT
  rw [h3] at RS
  have q1 : decide ((120 : Int) < (s.size : Int)) = false := decide_eq_false (by omega)
  have q2 : decide ((120 : Int) < (t.size : Int)) = true := decide_eq_true (by omega)
  clear e2 h3
  go_enter Tryd.func5, Tryd.ntmps5
  go_wp2_with fail
  go_at_call 26
  refine (RS.out _).mono ?_
  rintro e w1 ⟨a, n, c, D, rfl, hbb1⟩
  have HB1 := Lib.hid (hbb1.alloc hbb1.size (.cells #[.slice a n c] 25))
  clear hbb1
  go_wp2_with fail
  go_at_call 26
  refine (RT.out _).mono ?_
  rintro e w2 ⟨a2, n2, c2, D2, rfl, hbb2⟩
  have hx := HB1.out.trans (hbb2.mono HB1.out.size)
  have HB2 := Lib.hid (hx.alloc hx.size (.cells #[.slice a2 n2 c2] 25))
  clear hbb2 hx
  go_wp2_with fail
  go_at_call 10
  refine (awake_any _).mono ?_
  rintro e w3 ⟨rfl, hb3⟩
  have HB3 := Lib.hid (HB2.out.trans (hb3.mono HB2.out.size))
  clear hb3
  go_wp2
  go_ret
  exact ⟨rfl, HB3.out⟩

set_option maxHeartbeats 1600000 in
set_option maxRecDepth 100000 in
theorem natSums_c (s t : ByteArray) (w : World) (hs : s.size ≤ maxLen) (ht : t.size ≤ maxLen) (h1 : ¬ 120 < s.size) (h2 : 120 < t.size) (h3 : rd s = false) :
    Calls Tryd.prog 5 #[.string s, .string t] w fun e w' => e = .returned (.bool true) ∧ Below w.heap.size w w' := by
  have RS := Lib.hid (fun wz => read_any s wz hs)
  have RT := Lib.hid (fun wz => read_any t wz ht)
  have GS := Lib.hid (fun wz => right_any s wz hs)
  have GT := Lib.hid (fun wz => right_any t wz ht)
  unfold maxLen at hs ht
  have e2 : rd t = false := by unfold rd; rw [decide_eq_false (by omega)]; rfl
  rw [e2] at RT
  rw [h3] at RS
  have q1 : decide ((120 : Int) < (s.size : Int)) = false := decide_eq_false (by omega)
  have q2 : decide ((120 : Int) < (t.size : Int)) = true := decide_eq_true (by omega)
  clear e2 h3
  go_enter Tryd.func5, Tryd.ntmps5
  go_wp2_with fail
  go_at_call 26
  refine (RS.out _).mono ?_
  rintro e w1 ⟨a, n, c, D, rfl, hbb1⟩
  have HB1 := Lib.hid (hbb1.alloc hbb1.size (.cells #[.slice a n c] 25))
  clear hbb1
  go_wp2_with fail
  go_at_call 26
  refine (RT.out _).mono ?_
  rintro e w2 ⟨a2, n2, c2, D2, rfl, hbb2⟩
  have hx := HB1.out.trans (hbb2.mono HB1.out.size)
  have HB2 := Lib.hid (hx.alloc hx.size (.cells #[.slice a2 n2 c2] 25))
  clear hbb2 hx
  go_wp2_with fail
  go_at_call 10
  refine (awake_any _).mono ?_
  rintro e w3 ⟨rfl, hb3⟩
  have HB3 := Lib.hid (HB2.out.trans (hb3.mono HB2.out.size))
  clear hb3
  go_wp2
  go_ret
  exact ⟨rfl, HB3.out⟩

set_option maxHeartbeats 1600000 in
set_option maxRecDepth 100000 in
theorem natSums_d (s t : ByteArray) (w : World) (hs : s.size ≤ maxLen) (ht : t.size ≤ maxLen) (h1 : ¬ 120 < s.size) (h2 : ¬ 120 < t.size) (h3 : okB s.data.toList = false) :
    Calls Tryd.prog 5 #[.string s, .string t] w fun e w' => e = .returned (.bool true) ∧ Below w.heap.size w w' := by
  have RS := Lib.hid (fun wz => read_any s wz hs)
  have RT := Lib.hid (fun wz => read_any t wz ht)
  have GS := Lib.hid (fun wz => right_any s wz hs)
  have GT := Lib.hid (fun wz => right_any t wz ht)
  unfold maxLen at hs ht
  have e1 : rd s = false := by unfold rd; rw [h3, Bool.and_false]
  rw [e1] at RS
  rw [h3] at GS
  obtain ⟨y, hy⟩ : ∃ y, rd t = y := ⟨_, rfl⟩
  rw [hy] at RT
  have q1 : decide ((120 : Int) < (s.size : Int)) = false := decide_eq_false (by omega)
  have q2 : decide ((120 : Int) < (t.size : Int)) = false := decide_eq_false (by omega)
  clear e1 hy h3
  go_enter Tryd.func5, Tryd.ntmps5
  go_wp2_with fail
  go_at_call 26
  refine (RS.out _).mono ?_
  rintro e w1 ⟨a, n, c, D, rfl, hbb1⟩
  have HB1 := Lib.hid (hbb1.alloc hbb1.size (.cells #[.slice a n c] 25))
  clear hbb1
  go_wp2_with fail
  go_at_call 26
  refine (RT.out _).mono ?_
  rintro e w2 ⟨a2, n2, c2, D2, rfl, hbb2⟩
  have hx := HB1.out.trans (hbb2.mono HB1.out.size)
  have HB2 := Lib.hid (hx.alloc hx.size (.cells #[.slice a2 n2 c2] 25))
  clear hbb2 hx
  go_wp2_with fail
  go_at_call 10
  refine (awake_any _).mono ?_
  rintro e w3 ⟨rfl, hb3⟩
  have HB3 := Lib.hid (HB2.out.trans (hb3.mono HB2.out.size))
  clear hb3
  go_wp2_with fail
  go_at_call 12
  refine (GS.out _).mono ?_
  rintro e wq ⟨rfl, rfl⟩
  go_wp2
  go_ret
  exact ⟨rfl, HB3.out⟩

set_option maxHeartbeats 1600000 in
set_option maxRecDepth 100000 in
theorem natSums_e (s t : ByteArray) (w : World) (hs : s.size ≤ maxLen) (ht : t.size ≤ maxLen) (h1 : ¬ 120 < s.size) (h2 : ¬ 120 < t.size) (h3 : okB s.data.toList = true) (h4 : okB t.data.toList = false) :
    Calls Tryd.prog 5 #[.string s, .string t] w fun e w' => e = .returned (.bool true) ∧ Below w.heap.size w w' := by
  have RS := Lib.hid (fun wz => read_any s wz hs)
  have RT := Lib.hid (fun wz => read_any t wz ht)
  have GS := Lib.hid (fun wz => right_any s wz hs)
  have GT := Lib.hid (fun wz => right_any t wz ht)
  unfold maxLen at hs ht
  have e1 : rd s = true := by unfold rd; rw [h3, decide_eq_true (by omega)]; rfl
  have e2 : rd t = false := by unfold rd; rw [h4, Bool.and_false]
  rw [e1] at RS
  rw [h3] at GS
  rw [e2] at RT
  rw [h4] at GT
  have q1 : decide ((120 : Int) < (s.size : Int)) = false := decide_eq_false (by omega)
  have q2 : decide ((120 : Int) < (t.size : Int)) = false := decide_eq_false (by omega)
  clear e1 e2 h3 h4
  go_enter Tryd.func5, Tryd.ntmps5
  go_wp2_with fail
  go_at_call 26
  refine (RS.out _).mono ?_
  rintro e w1 ⟨a, n, c, D, rfl, hbb1⟩
  have HB1 := Lib.hid (hbb1.alloc hbb1.size (.cells #[.slice a n c] 25))
  clear hbb1
  go_wp2_with fail
  go_at_call 26
  refine (RT.out _).mono ?_
  rintro e w2 ⟨a2, n2, c2, D2, rfl, hbb2⟩
  have hx := HB1.out.trans (hbb2.mono HB1.out.size)
  have HB2 := Lib.hid (hx.alloc hx.size (.cells #[.slice a2 n2 c2] 25))
  clear hbb2 hx
  go_wp2_with fail
  go_at_call 10
  refine (awake_any _).mono ?_
  rintro e w3 ⟨rfl, hb3⟩
  have HB3 := Lib.hid (HB2.out.trans (hb3.mono HB2.out.size))
  clear hb3
  go_wp2_with fail
  go_at_call 12
  refine (GS.out _).mono ?_
  rintro e wq ⟨rfl, rfl⟩
  go_wp2_with fail
  go_at_call 12
  refine (GT.out _).mono ?_
  rintro e wq ⟨rfl, rfl⟩
  go_wp2
  go_ret
  exact ⟨rfl, HB3.out⟩


/-- Difference, its value's parts named. -/
def SubTold (w w' : World) (e : Ending) (N M : Nat) (b : Bool) : Prop := ∃ a n c, e = .returned (.tuple #[.agg #[.slice a n c], .bool b]) ∧ NatIs w' (.agg #[.slice a n c]) (N - M) ∧ Below w.heap.size w w'

set_option maxHeartbeats 3200000 in
set_option maxRecDepth 100000 in
theorem natSums_yes (s t : ByteArray) (w : World) (hs : s.size ≤ 120) (ht : t.size ≤ 120) (h1 : okB s.data.toList = true) (h2 : okB t.data.toList = true) :
    Calls Tryd.prog 5 #[.string s, .string t] w fun e w' => e = .returned (.bool true) ∧ Below w.heap.size w w' := by
  have RS := Lib.hid (fun wz => read_yes s wz hs h1)
  have RT := Lib.hid (fun wz => read_yes t wz ht h2)
  obtain ⟨b1, d1⟩ := read_bound hs h1
  obtain ⟨b2, d2⟩ := read_bound ht h2
  generalize numOf s.data.toList = N at *
  generalize numOf t.data.toList = M at *
  have bNM : N + M < 4294967296 ^ 14 := by
    have := lim120 b1
    have := lim120 b2
    rw [pow_succ32]; omega
  have SU : Hid (∀ v u wz, NatIs wz v N → NatIs wz u M → Calls Tryd.prog 27 #[v, u] wz fun e w' => SubTold wz w' e N M (decide (M ≤ N))) := fun v u wz hv hu =>
    (sub_any v u N M wz hv hu).mono fun e w' ⟨x, he, hx, hb⟩ => by
      obtain ⟨a, n, c, f, rfl, hs, hv, ht⟩ := hx
      exact ⟨a, n, c, he, ⟨a, n, c, f, rfl, hs, hv, ht⟩, hb⟩
  have AD : Hid (∀ v u wz, NatIs wz v N → NatIs wz u M → Calls Tryd.prog 30 #[v, u] wz fun e w' => NatTold wz w' e (N + M)) := fun v u wz hv hu =>
    (add_any v u N M wz hv hu 13 (by omega) (lim120 b1) (lim120 b2)).mono fun _ _ h => h.told
  have CM : Hid (∀ v u wz, NatIs wz v N → NatIs wz u M → Calls Tryd.prog 32 #[v, u] wz fun e w' => e = .returned (.int .i64 (cmpI N M)) ∧ Below wz.heap.size wz w') := fun v u wz hv hu => cmp_any v u N M wz hv hu
  have TX1 : Hid (∀ v wz, NatIs wz v (N + M) → Calls Tryd.prog 16 #[v] wz fun e w' => e = .returned (.string (str (dec (N + M)))) ∧ Below wz.heap.size wz w') := fun v wz hv => text_any v _ wz hv 14 (by omega) bNM
  have TX2 : Hid (∀ v wz, NatIs wz v (N - M) → Calls Tryd.prog 16 #[v] wz fun e w' => e = .returned (.string (str (dec (N - M)))) ∧ Below wz.heap.size wz w') := fun v wz hv => text_any v _ wz hv 14 (by omega) (by omega)
  have RA : Hid (∀ wz, Calls Tryd.prog 31 #[.string (str (dec N)), .string (str (dec M))] wz fun e w' => e = .returned (.string (str (dec (N + M)))) ∧ Below wz.heap.size wz w') := fun wz => radd_any N (dl N) M (dl M) wz (dl_lt N) (dl_lt M) (by omega) (by omega)
  have RB : Hid (∀ wz, M ≤ N → Calls Tryd.prog 29 #[.string (str (dec N)), .string (str (dec M))] wz fun e w' => e = .returned (.string (str (dec (N - M)))) ∧ Below wz.heap.size wz w') := fun wz h => rsub_any N (dl N) M (dl M) wz (dl_lt N) (dl_lt M) (by omega) (by omega) h
  have RC : Hid (∀ wz, Calls Tryd.prog 28 #[.string (str (dec N)), .string (str (dec M))] wz fun e w' => e = .returned (.int .i64 (cmpI N M)) ∧ wz = w') := fun wz => rcmp_any N M wz (by omega) (by omega)
  obtain ⟨x, hx⟩ : ∃ x, str (dec N) = x := ⟨_, rfl⟩
  obtain ⟨y, hy⟩ : ∃ y, str (dec M) = y := ⟨_, rfl⟩
  obtain ⟨z, hz⟩ : ∃ z, str (dec (N + M)) = z := ⟨_, rfl⟩
  obtain ⟨d, hd⟩ : ∃ d, str (dec (N - M)) = d := ⟨_, rfl⟩
  unfold ReadYes at RS RT
  rw [hx] at RS
  rw [hy] at RT
  rw [hx, hy] at RA RB RC
  rw [hz] at TX1 RA
  rw [hd] at TX2 RB
  have hzz : (z.toList == z.toList) = true := by simp
  have hdd : (d.toList == d.toList) = true := by simp
  obtain ⟨cm, hcm⟩ : ∃ cm, cmpI N M = cm := ⟨_, rfl⟩
  rw [hcm] at CM RC
  have hcc : (cm == cm) = true := by simp
  have hd0 : N < M → d = ⟨#[48]⟩ := by
    intro h
    rw [← hd, show N - M = 0 by omega, dec_zero]; rfl
  have hge : M ≤ N → 0 ≤ cm := by
    intro h
    obtain ⟨k, hk⟩ := cmp_pos h
    omega
  have hlt' : N < M → cm = -1 := fun h => by rw [← hcm, cmp_neg h]
  clear hx hy hz hd hcm b1 b2 d1 d2 bNM h1 h2
  by_cases hMN : M ≤ N
  · have g0 : (0 : Int) ≤ cm := hge hMN
    have g1 : decide ((0 : Int) ≤ cm) = true := decide_eq_true g0
    rw [decide_eq_true hMN] at SU
    have RB' : Hid (∀ wz, Calls Tryd.prog 29 #[.string x, .string y] wz fun e w' => e = .returned (.string d) ∧ Below wz.heap.size wz w') := fun wz => RB.out wz hMN
    clear RB hge hlt' hd0 hMN
    go_enter Tryd.func5, Tryd.ntmps5
    go_wp2_with fail
    go_at_call 26
    refine (RS.out _).mono ?_
    rintro e w1 ⟨a, n, c, rfl, hi1, hb1⟩
    have HI1 := Lib.hid (hi1.alloc (.cells #[.slice a n c] 25))
    have S1 := Lib.hid (Slot.new w1 (.slice a n c) 25)
    have HB1 := Lib.hid (hb1.alloc hb1.size (.cells #[.slice a n c] 25))
    clear hi1 hb1
    go_wp2_with fail
    go_at_call 26
    refine (RT.out _).mono ?_
    rintro e w2 ⟨a2, n2, c2, rfl, hi2, hb2⟩
    have HI2 := Lib.hid (hi2.alloc (.cells #[.slice a2 n2 c2] 25))
    have HJ1 := Lib.hid ((HI1.out.below hb2).alloc (.cells #[.slice a2 n2 c2] 25))
    have S2 := Lib.hid (Slot.new w2 (.slice a2 n2 c2) 25)
    have T1 := Lib.hid ((S1.out.below hb2).alloc (.cells #[.slice a2 n2 c2] 25))
    have hxx := HB1.out.trans (hb2.mono HB1.out.size)
    have HB2 := Lib.hid (hxx.alloc hxx.size (.cells #[.slice a2 n2 c2] 25))
    clear hi2 hb2 hxx
    have q1 := T1.out.cell
    have q2 := S2.out.cell
    go_wp2_with fail
    go_at_call 27
    refine (SU.out _ _ _ HJ1.out HI2.out).mono ?_
    rintro e w3 ⟨a3, n3, c3, rfl, hi3, hb3⟩
    clear q1 q2
    have HI3 := Lib.hid (hi3.alloc (.cells #[.slice a3 n3 c3] 25))
    have HJ2 := Lib.hid ((HI2.out.below hb3).alloc (.cells #[.slice a3 n3 c3] 25))
    have HK1 := Lib.hid ((HJ1.out.below hb3).alloc (.cells #[.slice a3 n3 c3] 25))
    have S3 := Lib.hid (Slot.new w3 (.slice a3 n3 c3) 25)
    have T2 := Lib.hid ((S2.out.below hb3).alloc (.cells #[.slice a3 n3 c3] 25))
    have U1 := Lib.hid ((T1.out.below hb3).alloc (.cells #[.slice a3 n3 c3] 25))
    have hxx := HB2.out.trans (hb3.mono HB2.out.size)
    have HB3 := Lib.hid (hxx.alloc hxx.size (.cells #[.slice a3 n3 c3] 25))
    clear hi3 hb3 hxx
    go_wp2_with fail
    go_at_call 28
    refine (RC.out _).mono ?_
    rintro e wq ⟨rfl, rfl⟩
    go_wp2_with fail
    go_at_call 29
    refine (RB'.out _).mono ?_
    rintro e wr ⟨rfl, hbr⟩
    have HI3 := Lib.hid (HI3.out.below hbr)
    have HJ2 := Lib.hid (HJ2.out.below hbr)
    have HK1 := Lib.hid (HK1.out.below hbr)
    have S3 := Lib.hid (S3.out.below hbr)
    have T2 := Lib.hid (T2.out.below hbr)
    have U1 := Lib.hid (U1.out.below hbr)
    have HB3 := Lib.hid (HB3.out.trans (hbr.mono HB3.out.size))
    clear hbr
    have q1 := U1.out.cell
    have q2 := T2.out.cell
    go_wp2_with fail
    go_at_call 30
    refine (AD.out _ _ _ HK1.out HJ2.out).mono ?_
    rintro e w4 ⟨a4, n4, c4, rfl, hi4, hb4⟩
    clear q1 q2
    have HI4 := Lib.hid hi4
    have HL3 := Lib.hid (HI3.out.below hb4)
    have HL2 := Lib.hid (HJ2.out.below hb4)
    have HL1 := Lib.hid (HK1.out.below hb4)
    have V3 := Lib.hid (S3.out.below hb4)
    have V2 := Lib.hid (T2.out.below hb4)
    have V1 := Lib.hid (U1.out.below hb4)
    have HB4 := Lib.hid (HB3.out.trans (hb4.mono HB3.out.size))
    clear hi4 hb4
    go_wp2_with fail
    go_at_call 16
    refine (TX1.out _ _ HI4.out).mono ?_
    rintro e w5 ⟨rfl, hb5⟩
    have HM3 := Lib.hid (HL3.out.below hb5)
    have HM2 := Lib.hid (HL2.out.below hb5)
    have HM1 := Lib.hid (HL1.out.below hb5)
    have X3 := Lib.hid (V3.out.below hb5)
    have X2 := Lib.hid (V2.out.below hb5)
    have X1 := Lib.hid (V1.out.below hb5)
    have HB5 := Lib.hid (HB4.out.trans (hb5.mono HB4.out.size))
    clear hb5
    go_wp2_with fail
    go_at_call 31
    refine (RA.out _).mono ?_
    rintro e w6 ⟨rfl, hb6⟩
    have HN3 := Lib.hid (HM3.out.below hb6)
    have HN2 := Lib.hid (HM2.out.below hb6)
    have HN1 := Lib.hid (HM1.out.below hb6)
    have Y3 := Lib.hid (X3.out.below hb6)
    have Y2 := Lib.hid (X2.out.below hb6)
    have Y1 := Lib.hid (X1.out.below hb6)
    have HB6 := Lib.hid (HB5.out.trans (hb6.mono HB5.out.size))
    clear hb6
    have q1 := Y1.out.cell
    have q2 := Y2.out.cell
    go_wp2_with fail
    go_at_call 32
    refine (CM.out _ _ _ HN1.out HN2.out).mono ?_
    rintro e w7 ⟨rfl, hb7⟩
    clear q1 q2
    have HO3 := Lib.hid (HN3.out.below hb7)
    have Z3 := Lib.hid (Y3.out.below hb7)
    have HB7 := Lib.hid (HB6.out.trans (hb7.mono HB6.out.size))
    clear hb7
    go_wp2_with fail
    go_at_call 28
    refine (RC.out _).mono ?_
    rintro e wq ⟨rfl, rfl⟩
    have q3 := Z3.out.cell
    go_wp2_with fail
    go_at_call 16
    refine (TX2.out _ _ HO3.out).mono ?_
    rintro e w8 ⟨rfl, hb8⟩
    clear q3
    have HB8 := Lib.hid (HB7.out.trans (hb8.mono HB7.out.size))
    clear hb8
    go_wp2_with fail
    go_at_call 28
    refine (RC.out _).mono ?_
    rintro e wq ⟨rfl, rfl⟩
    go_wp2_with fail
    go_at_call 10
    refine (awake_any _).mono ?_
    rintro e w9 ⟨rfl, hb9⟩
    have HB9 := Lib.hid (HB8.out.trans (hb9.mono HB8.out.size))
    clear hb9
    go_wp2
    go_ret
    exact ⟨rfl, HB9.out⟩
  · have g2 : cm = -1 := hlt' (by omega)
    have hd1 : d = ⟨#[48]⟩ := hd0 (by omega)
    subst g2
    subst hd1
    rw [decide_eq_false hMN] at SU
    clear RB hge hlt' hd0 hMN
    go_enter Tryd.func5, Tryd.ntmps5
    go_wp2_with fail
    go_at_call 26
    refine (RS.out _).mono ?_
    rintro e w1 ⟨a, n, c, rfl, hi1, hb1⟩
    have HI1 := Lib.hid (hi1.alloc (.cells #[.slice a n c] 25))
    have S1 := Lib.hid (Slot.new w1 (.slice a n c) 25)
    have HB1 := Lib.hid (hb1.alloc hb1.size (.cells #[.slice a n c] 25))
    clear hi1 hb1
    go_wp2_with fail
    go_at_call 26
    refine (RT.out _).mono ?_
    rintro e w2 ⟨a2, n2, c2, rfl, hi2, hb2⟩
    have HI2 := Lib.hid (hi2.alloc (.cells #[.slice a2 n2 c2] 25))
    have HJ1 := Lib.hid ((HI1.out.below hb2).alloc (.cells #[.slice a2 n2 c2] 25))
    have S2 := Lib.hid (Slot.new w2 (.slice a2 n2 c2) 25)
    have T1 := Lib.hid ((S1.out.below hb2).alloc (.cells #[.slice a2 n2 c2] 25))
    have hxx := HB1.out.trans (hb2.mono HB1.out.size)
    have HB2 := Lib.hid (hxx.alloc hxx.size (.cells #[.slice a2 n2 c2] 25))
    clear hi2 hb2 hxx
    have q1 := T1.out.cell
    have q2 := S2.out.cell
    go_wp2_with fail
    go_at_call 27
    refine (SU.out _ _ _ HJ1.out HI2.out).mono ?_
    rintro e w3 ⟨a3, n3, c3, rfl, hi3, hb3⟩
    clear q1 q2
    have HI3 := Lib.hid (hi3.alloc (.cells #[.slice a3 n3 c3] 25))
    have HJ2 := Lib.hid ((HI2.out.below hb3).alloc (.cells #[.slice a3 n3 c3] 25))
    have HK1 := Lib.hid ((HJ1.out.below hb3).alloc (.cells #[.slice a3 n3 c3] 25))
    have S3 := Lib.hid (Slot.new w3 (.slice a3 n3 c3) 25)
    have T2 := Lib.hid ((S2.out.below hb3).alloc (.cells #[.slice a3 n3 c3] 25))
    have U1 := Lib.hid ((T1.out.below hb3).alloc (.cells #[.slice a3 n3 c3] 25))
    have hxx := HB2.out.trans (hb3.mono HB2.out.size)
    have HB3 := Lib.hid (hxx.alloc hxx.size (.cells #[.slice a3 n3 c3] 25))
    clear hi3 hb3 hxx
    go_wp2_with fail
    go_at_call 28
    refine (RC.out _).mono ?_
    rintro e wq ⟨rfl, rfl⟩
    have q1 := U1.out.cell
    have q2 := T2.out.cell
    go_wp2_with fail
    go_at_call 30
    refine (AD.out _ _ _ HK1.out HJ2.out).mono ?_
    rintro e w4 ⟨a4, n4, c4, rfl, hi4, hb4⟩
    clear q1 q2
    have HI4 := Lib.hid hi4
    have HL3 := Lib.hid (HI3.out.below hb4)
    have HL2 := Lib.hid (HJ2.out.below hb4)
    have HL1 := Lib.hid (HK1.out.below hb4)
    have V3 := Lib.hid (S3.out.below hb4)
    have V2 := Lib.hid (T2.out.below hb4)
    have V1 := Lib.hid (U1.out.below hb4)
    have HB4 := Lib.hid (HB3.out.trans (hb4.mono HB3.out.size))
    clear hi4 hb4
    go_wp2_with fail
    go_at_call 16
    refine (TX1.out _ _ HI4.out).mono ?_
    rintro e w5 ⟨rfl, hb5⟩
    have HM3 := Lib.hid (HL3.out.below hb5)
    have HM2 := Lib.hid (HL2.out.below hb5)
    have HM1 := Lib.hid (HL1.out.below hb5)
    have X3 := Lib.hid (V3.out.below hb5)
    have X2 := Lib.hid (V2.out.below hb5)
    have X1 := Lib.hid (V1.out.below hb5)
    have HB5 := Lib.hid (HB4.out.trans (hb5.mono HB4.out.size))
    clear hb5
    go_wp2_with fail
    go_at_call 31
    refine (RA.out _).mono ?_
    rintro e w6 ⟨rfl, hb6⟩
    have HN3 := Lib.hid (HM3.out.below hb6)
    have HN2 := Lib.hid (HM2.out.below hb6)
    have HN1 := Lib.hid (HM1.out.below hb6)
    have Y3 := Lib.hid (X3.out.below hb6)
    have Y2 := Lib.hid (X2.out.below hb6)
    have Y1 := Lib.hid (X1.out.below hb6)
    have HB6 := Lib.hid (HB5.out.trans (hb6.mono HB5.out.size))
    clear hb6
    have q1 := Y1.out.cell
    have q2 := Y2.out.cell
    go_wp2_with fail
    go_at_call 32
    refine (CM.out _ _ _ HN1.out HN2.out).mono ?_
    rintro e w7 ⟨rfl, hb7⟩
    clear q1 q2
    have HO3 := Lib.hid (HN3.out.below hb7)
    have Z3 := Lib.hid (Y3.out.below hb7)
    have HB7 := Lib.hid (HB6.out.trans (hb7.mono HB6.out.size))
    clear hb7
    go_wp2_with fail
    go_at_call 28
    refine (RC.out _).mono ?_
    rintro e wq ⟨rfl, rfl⟩
    have q3 := Z3.out.cell
    go_wp2_with fail
    go_at_call 16
    refine (TX2.out _ _ HO3.out).mono ?_
    rintro e w8 ⟨rfl, hb8⟩
    clear q3
    have HB8 := Lib.hid (HB7.out.trans (hb8.mono HB7.out.size))
    clear hb8
    go_wp2_with fail
    go_at_call 28
    refine (RC.out _).mono ?_
    rintro e wq ⟨rfl, rfl⟩
    go_wp2_with fail
    go_at_call 10
    refine (awake_any _).mono ?_
    rintro e w9 ⟨rfl, hb9⟩
    have HB9 := Lib.hid (HB8.out.trans (hb9.mono HB8.out.size))
    clear hb9
    go_wp2
    go_ret
    exact ⟨rfl, HB9.out⟩

theorem natSums_walk (s t : ByteArray) (w : World) (hs : s.size ≤ maxLen) (ht : t.size ≤ maxLen) :
    Calls Tryd.prog 5 #[.string s, .string t] w fun e w' => e = .returned (.bool true) ∧ Below w.heap.size w w' := by
  by_cases h1 : 120 < s.size
  · exact natSums_a s t w hs ht h1
  · by_cases h2 : 120 < t.size
    · cases h3 : rd s with
      | true => exact natSums_b s t w hs ht h1 h2 h3
      | false => exact natSums_c s t w hs ht h1 h2 h3
    · cases h3 : okB s.data.toList with
      | false => exact natSums_d s t w hs ht h1 h2 h3
      | true =>
        cases h4 : okB t.data.toList with
        | false => exact natSums_e s t w hs ht h1 h2 h3 h4
        | true => exact natSums_yes s t w (by omega) (by omega) h3 h4

theorem own : ownKnob Tryd.prog.godebug = none := by kernel_rfl

set_option maxRecDepth 100000 in
theorem natSums_lifted (os : Os) (started : os.Started) (H : Type) (enc : TypeId × Value → H) :
    ReturnsInHanded {} Tryd.checked os 5 .any (fun w args => (Rows.natSumsSpec.pre enc Tryd.prog Tryd.f5 [] false w args ∧ laidMetH Tryd.prog Rows.natSumsRow.laid w) ∧ sizedMet enc Tryd.prog Tryd.f5 (OpenSpec.ofChange Rows.natSumsSpec) false w args)
      (Rows.natSumsSpec.post enc Tryd.prog Tryd.f5 false true false false) := by
  refine returnsInHanded_of_change_and (C := Tryd.checked) (X := fun w _ => laidMetH Tryd.prog Rows.natSumsRow.laid w) (fun _ _ _ hh h => h.of_heap hh) own started (by kernel_rfl) Tryd.func5
    (ChangeSpec.witness_shaped (enc := enc) (C := Tryd.checked) (os := os) (X := fun w _ => laidMetH Tryd.prog Rows.natSumsRow.laid w) false (World.laidAll Tryd.prog os Rows.natSumsRow.laid) #[.string ⟨#[]⟩, .string ⟨#[]⟩] 8 (World.laidAll_os _ _ _)
      (World.shaped_of_ZipB (by kernel_rfl) (by kernel_rfl)) (by kernel_rfl) (by kernel_rfl) (by kernel_rfl)
      (by rw [MakeChecks.laidMetH_plain _ _ _ (by kernel_rfl)]; exact laidMet_laidAll _ (by kernel_rfl) (by kernel_rfl))) ?_
  intro W base args ds gs before hval0 hW _ _ _ _
  have hval : ∀ (j : Nat) t v, Tryd.f5.params[j]? = some t → args[j]? = some v → Value.okWide Tryd.prog W .any base t v := hval0
  have hW' := hW
  obtain ⟨p, q, hA0, hV, rfl, _, _⟩ := hW
  have hA : DataW.TrodAll enc Tryd.prog W 0 (fun _ => true) true Tryd.f5.params.toList args.toList ds p := hA0
  rw [Tryd.params5] at hA hval
  obtain ⟨v0, v1, d0, d1, p0, p1, rfl, rfl, rfl, h0, h1⟩ := trodAll_two hA
  obtain ⟨rfl, rfl⟩ := trodVars_none hV
  obtain ⟨x0, rfl, rfl, rfl, b0⟩ := open_string Tryd.underlying9 (hval 0 9 v0 rfl rfl) h0
  obtain ⟨x1, rfl, rfl, rfl, b1⟩ := open_string Tryd.underlying9 (hval 1 9 v1 rfl rfl) h1
  simp only [List.append_nil] at hW'
  refine (natSums_walk x0 x1 W b0 b1).mono fun e W' ⟨he, hb⟩ => ?_
  subst he
  exact ⟨_, rfl, _, _, _, [], [], [], hW', trodAll_mk1 (shut_bool Tryd.underlying4 _), trodAll_mk2 (shut_string Tryd.underlying9 b0) (shut_string Tryd.underlying9 b1), rfl, hb.frame _, fun h => by cases h⟩

theorem natSums_row : Rows.NatSumsSaid :=
  OpenClaim.holds_of_wide 5 Tryd.f5 rfl rfl rfl rfl rfl rfl rfl ⟨rfl, rfl, rfl, rfl, rfl⟩ rfl rfl rfl rfl rfl (by kernel_rfl) Tryd.func5 (by kernel_rfl)
    (of_decide_eq_true (by kernel_rfl)) (by unfold Func.isWrapper; first | (rw [if_pos (by decide +kernel)]; kernel_rfl) | (rw [if_neg (by decide +kernel)]; exact ⟨rfl, rfl⟩))
    (fun os started H enc _ => natSums_lifted os started H enc)

theorem natSums_holds : Rows.NatSumsCardSaid :=
  Claim7.holds_tied_plain_at .later [] [.data, .pinned] true Rows.natSumsCard.stood.harness false natSums_row (fun _ h => by cases h) (by kernel_rfl) (fun _ h => by cases h) natSums_row_tie rfl ⟨rfl, rfl⟩ (by kernel_rfl) rfl
    (fun f fn hf hfn => by
      obtain rfl : f = 5 := Option.some.inj ((show Tryd.prog.funcNamed "typeball/typeballlaw01.NatSums" = some 5 by kernel_rfl).symm.trans hf) |>.symm
      obtain rfl : fn = Tryd.f5 := (Option.some.inj (Tryd.func5.symm.trans hfn)).symm
      exact ⟨by kernel_rfl, fun j t ht => by
        rw [Tryd.params5] at ht
        have hm : t ∈ [9] := by simpa using Array.mem_of_getElem? ht
        have hall : ([9].all fun u => !Tryd.prog.wantsStandIn u) = true := by kernel_rfl
        exact (show Tryd.prog.wantsStandIn t = false by simpa using List.all_eq_true.1 hall t hm)⟩)
    (by kernel_rfl)
#print axioms natSums_holds
end Go.Proofs.YtimihhnnhpejcaaDoor
