/-
  Package nat: Parse, by contract.
-/
import Derived.Test.YtkjdoknmmiaapaaDoorNat18
namespace Go.Proofs.YtkjdoknmmiaapaaDoor
open Go.RowKit

def isDig (c : UInt8) : Bool := decide (48 ≤ c.toNat) && decide (c.toNat ≤ 57)
def okB (l : List UInt8) : Bool := decide (0 < l.length) && (decide (l.length ≤ 2000) && l.all isDig)
theorem isDig_iff {c : UInt8} : isDig c = true ↔ 48 ≤ c.toNat ∧ c.toNat ≤ 57 := by simp [isDig]
theorem okB_digs {l : List UInt8} (h : okB l = true) : 0 < l.length ∧ l.length ≤ 2000 ∧ ∀ c ∈ l, 48 ≤ c.toNat ∧ c.toNat ≤ 57 := by
  simp only [okB, Bool.and_eq_true, decide_eq_true_eq, List.all_eq_true] at h
  exact ⟨h.1, h.2.1, fun c hc => isDig_iff.1 (h.2.2 c hc)⟩
theorem okB_mk {l : List UInt8} (h1 : 0 < l.length) (h2 : l.length ≤ 2000) (h3 : ∀ c ∈ l, 48 ≤ c.toNat ∧ c.toNat ≤ 57) : okB l = true := by
  simp only [okB, Bool.and_eq_true, decide_eq_true_eq, List.all_eq_true]
  exact ⟨h1, h2, fun c hc => isDig_iff.2 (h3 c hc)⟩

theorem numOf_snoc (c : UInt8) : ∀ l : List UInt8, numOf (l ++ [c]) = 10 * numOf l + (c.toNat - 48)
  | [] => by simp [numOf]
  | x :: l => by
    rw [List.cons_append, numOf, numOf_snoc c l, numOf, List.length_append, List.length_singleton, Nat.pow_succ, Nat.mul_add]
    have : (x.toNat - 48) * (10 ^ l.length * 10) = 10 * ((x.toNat - 48) * 10 ^ l.length) := by rw [← Nat.mul_assoc, Nat.mul_comm]
    omega

theorem take_snoc (s : ByteArray) (k : Nat) (h : k < s.size) : s.data.toList.take (k + 1) = s.data.toList.take k ++ [s[k]] := by
  rw [List.take_succ_eq_append_getElem (by simpa using h)]; rfl

def ParseOut (w w' : World) (e : Ending) (l : List UInt8) : Prop := ∃ a n c, e = .returned (.tuple #[.agg #[.slice a n c], .bool (okB l)]) ∧ NatIs w' (.agg #[.slice a n c]) (if okB l then numOf l else 0) ∧ (∀ x, a = some x → w.heap.size ≤ x.block) ∧ Below w.heap.size w w'

theorem parse_no {w w' : World} {l : List UInt8} (h : okB l = false) (hb : Below w.heap.size w w') : ParseOut w w' (.returned (.tuple #[.agg #[.slice none 0 0], .bool false])) l :=
  ⟨_, _, _, by rw [h], by rw [h]; exact NatIs.zero _, (fun x hx => by cases hx), hb⟩

def ParI (w wr : World) (s : ByteArray) (v : Value) (k : Nat) : Prop := Below w.heap.size w wr ∧ Slot wr w.heap.size (.slice none 0 0) ∧ (∀ c ∈ s.data.toList.take k, 48 ≤ c.toNat ∧ c.toNat ≤ 57) ∧
  ∃ n d, OwnL wr (w.heap.size + 1) 86 .u32 v n d ∧ (∀ j, j < n → d j < 4294967296) ∧ n ≤ k ∧ val d n = numOf (s.data.toList.take k)

set_option maxHeartbeats 1600000 in
set_option maxRecDepth 100000 in
theorem parse_any (s : ByteArray) (w : World) (hs : s.size ≤ maxLen) : Calls Tryd.prog 16 #[.string s] w fun e w' => ParseOut w w' e s.data.toList := by
  have hsl : s.data.toList.length = s.size := rfl
  unfold maxLen at hs
  have s0 := Slot.new w (.slice none 0 0) 25
  have hB : Below w.heap.size w (w.alloc (.cells #[.slice none 0 0] 25)) := (Below.refl _ _).alloc (Nat.le_refl _) _
  by_cases h0 : s.size = 0
  · have hn : okB s.data.toList = false := by simp [okB, hsl, h0]
    have HE := Lib.hid (parse_no hn hB)
    have h1 : ((s.size : Int) == 0) = true := by simp [h0]
    have h2 : s.data.toList = [] := List.eq_nil_of_length_eq_zero (by omega)
    clear s0 hB hn
    go_enter Tryd.func16, Tryd.ntmps16
    go_wp2
    exact bodyPost_ret (v := .tuple #[.agg #[.slice none 0 0], .bool false]) (by simp [results, Tryd.results16, go_sem]) rfl HE.out
  by_cases h1 : 2000 < s.size
  · have hn : okB s.data.toList = false := by simp only [okB, hsl]; simp; omega
    have HE := Lib.hid (parse_no hn hB)
    have h2 : ((s.size : Int) == 0) = false := by rw [beq_eq_false_iff_ne]; omega
    have h3 : decide ((2000 : Int) < (s.size : Int)) = true := decide_eq_true (by omega)
    clear s0 hB hn
    go_enter Tryd.func16, Tryd.ntmps16
    go_wp2
    exact bodyPost_ret (v := .tuple #[.agg #[.slice none 0 0], .bool false]) (by simp [results, Tryd.results16, go_sem]) rfl HE.out
  have H0 : ParI w (w.alloc (.cells #[.slice none 0 0] 25)) s (.slice none 0 0) 0 := ⟨hB, s0, by simp, 0, fun _ => 0, World.ownsRow_nil _ _ _ _, fun _ _ => by omega, by omega, rfl⟩
  have h2 : ((s.size : Int) == 0) = false := by rw [beq_eq_false_iff_ne]; omega
  have h3 : decide ((2000 : Int) < (s.size : Int)) = false := decide_eq_false (by omega)
  have h4 : s.size ≤ 2000 := by omega
  have h5 : 0 < s.size := by omega
  clear s0 hB h0 h1 hs
  have HSL := Lib.hid hsl
  clear hsl
  go_enter Tryd.func16, Tryd.ntmps16
  go_wp2
  go_loopw [4, 17] (fun u i wr => ∃ (k : Nat) (v : Value), k ≤ s.size ∧ i = .int .i64 k ∧ v = u ∧ ParI w wr s v k)
    (fun _ i _ => s.size - (intOf i).toNat)
  case atStart => exact ⟨0, _, by omega, rfl, rfl, H0⟩
  case round =>
    obtain ⟨k, v, hk, rfl, rfl, hr⟩ := hrel
    obtain ⟨hbl, hsl, hdg, n, d, hd, hdb, hnk, hval⟩ := hr
    by_cases hlt : k < s.size
    · have hsn := take_snoc s k hlt
      obtain ⟨c, hc⟩ : ∃ c, s[k] = c := ⟨_, rfl⟩
      rw [hc] at hsn
      by_cases hdc : 48 ≤ c.toNat ∧ c.toNat ≤ 57
      · obtain ⟨p, hp⟩ : ∃ p, c.toNat - 48 = p := ⟨_, rfl⟩
        have e1 : (c.toNat : Int) - 48 = (p : Int) := by omega
        have e2 : (p : Int) % 256 = (p : Int) := by omega
        have t1 : decide ((c.toNat : Int) < 48) = false := decide_eq_false (by omega)
        have t2 : decide ((57 : Int) < (c.toNat : Int)) = false := decide_eq_false (by omega)
        have hcl : (48 : Int) ≤ (c.toNat : Int) := by omega
        have hsz : w.heap.size + 1 ≤ wr.heap.size := hsl.lt
        have HT := Lib.hid (timesPlus_any (w.heap.size + 1) v n d 10 p wr hd hdb (by omega) (by omega) (by omega) hsz)
        have hnx : ∀ w1 v1 n1 d1, OwnL w1 (w.heap.size + 1) 86 .u32 v1 n1 d1 → (∀ j, j < n1 → d1 j < 4294967296) → val d1 n1 = 10 * val d n + p → n1 ≤ n + 1 → Below (w.heap.size + 1) wr w1 → ParI w w1 s v1 (k + 1) := by
          intro w1 v1 n1 d1 g1 g2 g3 g4 g5
          refine ⟨hbl.trans (g5.mono (by omega)), ⟨(g5.cell (p := ⟨w.heap.size, 0, none⟩) (Nat.lt_succ_self _)).trans hsl.cell, (g5.frozen (p := ⟨w.heap.size, 0, none⟩) (Nat.lt_succ_self _)).trans hsl.free, Nat.lt_of_lt_of_le hsl.lt g5.size⟩, ?_, n1, d1, g1, g2, by omega, ?_⟩
          · rw [hsn]
            intro x hx
            rcases List.mem_append.1 hx with h | h
            · exact hdg x h
            · rw [List.mem_singleton.1 h]; exact hdc
          · rw [hsn, numOf_snoc, g3, hval, hp]
        have HNX := Lib.hid hnx
        clear hnx hsn hdg hd hdb hval hbl hsl hdc hp hsz
        go_wp2_with (go_at_call 71; refine HT.out.mono ?_; rintro e w1 ⟨v1, n1, d1, rfl, g1, g2, g3, g4, g5⟩)
        have HN := Lib.hid (HNX.out w1 v1 n1 d1 g1 g2 g3 g4 g5)
        clear g1 g2 g3 g5
        go_roundw
        case rel => exact ⟨k + 1, v1, by omega, by go_num, rfl, HN.out⟩
        case measure => simp [intOf]; omega
      · have hn : okB s.data.toList = false := by
          cases hk : okB s.data.toList
          · rfl
          · exfalso
            have := (okB_digs hk).2.2 c (List.mem_of_mem_take (by rw [hsn]; exact List.mem_append_right _ List.mem_cons_self))
            exact hdc this
        have hc3 := hsl.cell
        have hf3 := hsl.free
        have HE := Lib.hid (parse_no (w := w) (w' := wr.setCell ⟨w.heap.size, 0, none⟩ (.slice none 0 0)) hn (hbl.setCell (Nat.le_refl _) _))
        by_cases h48 : c.toNat < 48
        · have t1 : decide ((c.toNat : Int) < 48) = true := decide_eq_true (by omega)
          clear hsn hdg hd hdb hval hbl hsl hdc hn
          go_wp2
          exact bodyPost_ret (v := .tuple #[.agg #[.slice none 0 0], .bool false]) (by simp [results, Tryd.results16, go_sem, hc3]) rfl HE.out
        · have t1 : decide ((c.toNat : Int) < 48) = false := decide_eq_false (by omega)
          have t2 : decide ((57 : Int) < (c.toNat : Int)) = true := decide_eq_true (by omega)
          clear hsn hdg hd hdb hval hbl hsl hdc hn
          go_wp2
          exact bodyPost_ret (v := .tuple #[.agg #[.slice none 0 0], .bool false]) (by simp [results, Tryd.results16, go_sem, hc3]) rfl HE.out
    · obtain rfl : k = s.size := by omega
      rw [List.take_of_length_le (by rw [HSL.out]; omega)] at hdg hval
      have hok : okB s.data.toList = true := okB_mk (by rw [HSL.out]; omega) (by rw [HSL.out]; omega) hdg
      obtain ⟨a, c, rfl, hsa, hpl⟩ := hd.slAt hdb (by omega)
      have HT := Lib.hid (trimmed_pl a n c d wr hsa)
      have S3 := Lib.hid hsl
      have HB := Lib.hid hbl
      have HOK := Lib.hid hok
      have HV := Lib.hid hval
      clear hbl hsl hdg hd hdb hval hok hsa
      go_wp2_with fail
      go_at_call 72
      refine HT.out.mono ?_
      rintro e w4 ⟨a3, n3, c3, f3, rfl, hs3, hv3, ht3, hp3, hb4⟩
      have X3 := S3.out.below hb4
      obtain ⟨v', hv', hn', hbe⟩ := natOut_store (u := .slice a3 n3 c3) (k := w.heap.size) (HB.out.trans (hb4.mono HB.out.size)) (Nat.le_refl _) hs3 (hv3.trans HV.out) ht3 (by
        rintro x rfl
        rcases hp3 with h | h
        · cases h
        · have := hpl x h.symm; omega)
      have hc4 := X3.cell
      have hf4 := X3.free
      have HEND : ParseOut w (w4.setCell ⟨w.heap.size, 0, none⟩ (.slice a3 n3 c3)) (.returned (.tuple #[.agg #[.slice a3 n3 c3], .bool true])) s.data.toList := by
        cases hv'
        exact ⟨a3, n3, c3, by rw [HOK.out], by rw [HOK.out, if_pos rfl]; exact hn', (fun x hx => by
          rcases hp3 with h | h
          · rw [h] at hx; cases hx
          · rw [h] at hx; have := hpl x hx; omega), hbe⟩
      have HE := Lib.hid HEND
      clear hs3 hv3 ht3 hb4 hp3 X3 hv' hn' hbe HEND
      go_wp2
      exact bodyPost_ret (v := .tuple #[.agg #[.slice a3 n3 c3], .bool true]) (by simp [results, Tryd.results16, go_sem, hc4]) rfl HE.out

end Go.Proofs.YtkjdoknmmiaapaaDoor
