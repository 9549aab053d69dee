/-
  Texts of this seat, laid together.
-/
import Derived.WalkKit
import Derived.WalkSpells
import Derived.Deep.Draws
import Derived.Lib.Hide
import Derived.Lib.TrimByte
import Derived.WalkLawsBesides
import Derived.Laws.CopyOwn
import Derived.Deep.QuietTactic
import Derived.BigQuiet
import Derived.BigRegion
import Derived.RegionTactic
import Derived.Deep.RegionWith
import Derived.StillTailTactics
import Derived.IntWalk
import Derived.Test.YtpdcdebnkbnogaaGreatDoorRows
import Derived.Laws.BytesArg
import Derived.Lib.ItoaNum
import Derived.Test.YtpdcdebnkbnogaaGreatDoorShelf
import Derived.Deep.RegionHeld3
import Derived.Deep.DrawnRows
import Derived.Laws.BitsLemmas
import Derived.Below
import Derived.Laws.StructEq
import Derived.Test.YtpdcdebnkbnogaaGreatDoorQ1
import Derived.Test.YtpdcdebnkbnogaaGreatDoorQ2
import Derived.Test.YtpdcdebnkbnogaaGreatDoorQ3
import Derived.Test.YtpdcdebnkbnogaaGreatDoorQ4
import Derived.Test.YtpdcdebnkbnogaaGreatDoorQ5
import Derived.Test.YtpdcdebnkbnogaaGreatDoorQ6
import Derived.Test.YtpdcdebnkbnogaaGreatDoorQ7
import Derived.Test.YtpdcdebnkbnogaaGreatDoorQ8
import Derived.Test.YtpdcdebnkbnogaaGreatDoorQ9
import Derived.Test.YtpdcdebnkbnogaaGreatDoorQ10
set_option maxHeartbeats 12800000
set_option maxRecDepth 100000
set_option linter.unusedSimpArgs false
set_option linter.unusedVariables false
namespace Go.Proofs.YtpdcdebnkbnogaaGreatDoor
open Go.RowKit
end Go.Proofs.YtpdcdebnkbnogaaGreatDoor
namespace Go.Proofs.YtpdcdebnkbnogaaGreatDoor
theorem dl_low {N : Nat} (h : 0 < N) : 10 ^ (dl N - 1) <= N := by
 rcases Nat.lt_or_ge N (10 ^ (dl N - 1)) with h1 | h1
 · rcases Nat.eq_zero_or_pos (dl N - 1) with h2 | h2
   · rw [h2] at h1; simp at h1; omega
   · have := dl_le N _ h2 h1; omega
 · exact h1
def numOf : List UInt8 -> Nat
 | [] => 0
 | c :: l => (c.toNat - 48) * 10 ^ l.length + numOf l
theorem numOf_lt : ∀ l : List UInt8, (∀ c ∈ l, 48 <= c.toNat /\ c.toNat <= 57) -> numOf l < 10 ^ l.length
 | [], _ => by simp [numOf]
 | c :: l, h => by
  have h1 := numOf_lt l (fun x hx => h x (List.mem_cons_of_mem _ hx))
  have h2 := h c List.mem_cons_self
  rw [numOf, List.length_cons, Nat.pow_succ]
  have h3 : (c.toNat - 48) * 10 ^ l.length <= 9 * 10 ^ l.length := Nat.mul_le_mul_right _ (by omega)
  omega
theorem sdig_add (N q : Nat) : ∀ n k, k <= n -> sdig (N + q * 10 ^ n) k = sdig N k := by
 intro n k
 induction k with
 | zero => intro _; rfl
 | succ k ih =>
  intro hk
  rw [sdig, sdig, ih (by omega)]
  have : (N + q * 10 ^ n) / 10 ^ k % 10 = N / 10 ^ k % 10 := by
   obtain ⟨m, rfl⟩ : ∃ m, n = k + (m + 1) := ⟨n - k - 1, by omega⟩
   rw [Nat.pow_add, ← Nat.mul_assoc, Nat.mul_right_comm, Nat.add_mul_div_right _ _ (Nat.pow_pos (by omega)), Nat.pow_succ, ← Nat.mul_assoc]
   omega
  unfold dgt; rw [this]
theorem sdig_numOf : ∀ l : List UInt8, (∀ c ∈ l, 48 <= c.toNat /\ c.toNat <= 57) -> sdig (numOf l) l.length = l
 | [], _ => rfl
 | c :: l, h => by
  have h1 := numOf_lt l (fun x hx => h x (List.mem_cons_of_mem _ hx))
  have h2 := h c List.mem_cons_self
  rw [List.length_cons, sdig]
  have e1 : sdig (numOf (c :: l)) l.length = l := by
   rw [numOf, Nat.add_comm, sdig_add _ _ _ _ (Nat.le_refl _)]
   exact sdig_numOf l (fun x hx => h x (List.mem_cons_of_mem _ hx))
  have e2 : dgt (numOf (c :: l)) l.length = c := by
   rw [← UInt8.toNat_inj, dgt_toNat, numOf, Nat.add_comm ((c.toNat - 48) * _), Nat.add_mul_div_right _ _ (Nat.pow_pos (by omega)), Nat.div_eq_of_lt h1]
   omega
  rw [e1, e2]
end Go.Proofs.YtpdcdebnkbnogaaGreatDoor
namespace Go.Proofs.YtpdcdebnkbnogaaGreatDoor
open Go.RowKit
def TimesR (s : Nat -> Nat) (m p k c : Nat) (d : Nat -> Nat) : Prop := val d k + c * 4294967296 ^ k = m * val s k + p
theorem timesR_step {s : Nat -> Nat} {m p k c c' lo : Nat} (hp : c + s k * m = c' * 4294967296 + lo) :
    ∀ d d', TimesR s m p k c d -> (∀ j, j ≠ k -> d' j = d j) -> d' k = lo -> TimesR s m p (k + 1) c' d' := by
 intro d d' h h2 h3
 unfold TimesR at *
 rw [val, val, pow_succ32, val_congr k (f := d') (g := d) (fun j hj => h2 j (by omega)), h3]
 generalize 4294967296 ^ k = P at *
 generalize val d k = vd at *
 generalize val s k = vs at *
 generalize s k = x at *
 have a2 : (c + x * m) * P = (c' * 4294967296 + lo) * P := by rw [hp]
 have b1 : m * (vs + x * P) = m * vs + x * m * P := by rw [Nat.mul_add, ← Nat.mul_assoc, Nat.mul_comm m x]
 rw [Nat.add_mul, Nat.add_mul, Nat.mul_assoc c'] at a2
 rw [b1]
 omega
def TimesI (w wr : World) (base : Nat) (v : Value) (n : Nat) (s : Nat -> Nat) (m p k c : Nat) : Prop :=
 Below base w wr /\ ∃ d, OwnL wr base 160 .u32 v n d /\ (∀ j, j < n -> d j < 4294967296) /\ (∀ j, k <= j -> j < n -> d j = s j) /\ TimesR s m p k c d
theorem timesPlus_any (base : Nat) (v : Value) (n : Nat) (s : Nat -> Nat) (m p : Nat) (w : World) (h : OwnL w base 160 .u32 v n s) (hs : ∀ j, j < n -> s j < 4294967296) (hn : n + 1 <= 1000000) (hm : m < 4294967296) (hp : p < 4294967296) (hb : base <= w.heap.size) :
    Calls Tryz.prog 181 #[v, .int .u32 m, .int .u32 p] w fun e w' => ∃ v' n' d, e = .returned v' /\ OwnL w' base 160 .u32 v' n' d /\ (∀ j, j < n' -> d j < 4294967296) /\ val d n' = m * val s n + p /\ n' <= n + 1 /\ Below base w w' := by
 obtain ⟨i0, hi, hz0, hz1, hz2⟩ := info_parts infoU
 have H0 : TimesI w w base v n s m p 0 p := ⟨Below.refl _ _, s, h, hs, fun _ _ _ => rfl, by simp [TimesR, val]⟩
 obtain ⟨a, c0, rfl, _, _⟩ := h.slAt hs (by omega)
 have hpp : (p : Int) % 18446744073709551616 = (p : Int) := by omega
 clear hs h hpp
 have HI := Lib.hid hi
 clear hi
 go_enter Tryz.func181, Tryz.ntmps181
 go_wp2
 go_loopw [7, 13] (fun cy i wr => ∃ k c : Nat, k <= n /\ i = .int .i64 k /\ c < 4294967296 /\ cy = .int .u64 c /\ TimesI w wr base (.slice a n c0) n s m p k c)
  (fun _ i _ => n - (intOf i).toNat)
 case atStart => exact ⟨0, p, by omega, rfl, hp, rfl, H0⟩
 case round =>
  obtain ⟨k, c, hk, rfl, hc, rfl, hr⟩ := hrel
  by_cases hlt : k < n
  · obtain ⟨hbl, d, hd, hdb, hds, hR⟩ := hr
    have hcs := hd.cases
    rcases hcs with ⟨_, h1⟩ | ⟨g, c1, h1, hnc, hgb, hgl, hgc, hgf⟩
    · omega
    · cases h1
      have hck := hgc k hlt
      rw [Nat.zero_add] at hck
      have hfk := hgf k
      have hdk := hds k (Nat.le_refl _) hlt
      have hdl := hdb k hlt
      rw [hdk] at hck hdl
      obtain ⟨pr, hpr⟩ : ∃ pr, c + s k * m = pr := ⟨_, rfl⟩
      have hprm := mul_bound' hdl hm
      obtain ⟨lo, hlo⟩ : ∃ lo, pr % 4294967296 = lo := ⟨_, rfl⟩
      obtain ⟨c', hc'⟩ : ∃ c', pr / 4294967296 = c' := ⟨_, rfl⟩
      have hst := timesR_step (s := s) (m := m) (p := p) (k := k) (c := c) (c' := c') (lo := lo) (by rw [hpr]; omega)
      have hrn : TimesI w (wr.setCell ⟨g, k, none⟩ (.int .u32 lo)) base (.slice (some ⟨g, 0, none⟩) n c0) n s m p (k + 1) c' := by
       refine ⟨hbl.setCell hgb _, _, hd.store k lo, fun j hj => ?_, fun j h1 h2 => ?_, hst d _ hR (fun j hj => if_neg hj) (if_pos rfl)⟩
       · show (if j = k then lo else d j) < _
         split
         · omega
         · exact hdb j hj
       · show (if j = k then lo else d j) = _
         rw [if_neg (by omega)]; exact hds j (by omega) h2
      have hpl : pr < 18446744073709551616 := by omega
      have hcl : c' < 4294967296 := by omega
      have HRN := Lib.hid hrn
      generalize s k = x at *
      have e1 : (c : Int) + ((x : Int) * (m : Int)) = (pr : Int) := by rw [← hpr, Int.natCast_add, Int.natCast_mul]
      have e2 : (pr : Int) % 4294967296 = (lo : Int) := by omega
      have e3 : (pr : Int) / 4294967296 = (c' : Int) := by omega
      have i1 : (x : Int) * (m : Int) <= 18446744065119617025 := by rw [← Int.natCast_mul]; omega
      have i0 : 0 <= (x : Int) * (m : Int) := by rw [← Int.natCast_mul]; omega
      have hk0 : (0 : Int) <= (k : Int) := by omega
      have hkn : (k : Int) < (n : Int) := by omega
      have hkt : ((k : Int)).toNat = k := by omega
      clear hrn hst hbl hd hdb hds hR hpr hlo hc' hprm hgc hgf hdk H0
      go_wp2
      go_roundw
      case rel => exact ⟨k + 1, c', by omega, by go_num, hcl, rfl, HRN.out⟩
      case measure => simp [intOf]; omega
  · obtain rfl : k = n := by omega
    obtain ⟨hbl, d, hd, hdb, _, hR⟩ := hr
    unfold TimesR at hR
    by_cases hc0 : c = 0
    · subst hc0
      have hE : Hid (val d k = m * val s k + p) := by show _ = _; omega
      have HBL := Lib.hid hbl
      have HD := Lib.hid hd
      have HDB := Lib.hid hdb
      clear hbl hd hdb hR H0
      go_wp2
      go_ret
      exact ⟨_, k, d, rfl, HD.out, HDB.out, hE.out, by omega, HBL.out⟩
    · have hE : Hid (val (fun j => if j = k then c else d j) (k + 1) = m * val s k + p) := by
        show val _ _ = _
        rw [val, if_pos rfl, val_congr k (g := d) (fun j hj => if_neg (by omega))]; exact hR
      have hcc : 0 < c := by omega
      have e2 : (c : Int) % 4294967296 = (c : Int) := by omega
      have HBL := Lib.hid hbl
      have HDB := Lib.hid hdb
      have HD := Lib.hid hd
      have hsz : base <= wr.heap.size := Nat.le_trans hb hbl.size
      clear hbl hdb hR H0 hd
      go_wp2_with (at_builtin; refine wpList_append_own _ rfl _ _ 47 rfl base 160 i0 (.int .u32 0) 1 4 Tryz.underlying47 HI.out hz0 hz1 hz2 rfl (by decide) _ _ _ rfl (World.ownsRow.alloc HD.out _) ⟨wr.heap.size, 0, none⟩ 1 1 [.int .u32 c] rfl rfl ?c1 ?c2 ?c3 ?c4 ?c5 ?_)
      case c1 =>
       intro j u hj
       match j, hj with
       | 0, hj => simp at hj; subst hj; simp [Addr.add]
      case c2 => intro u hu; simp at hu; subst hu; rfl
      case c3 => unfold maxLen; omega
      case c4 => omega
      case c5 => rw [World.size_alloc]; omega
      · intro v' w1 hown' hgrow _
        have hb1 : Below base w w1 := (HBL.out.alloc hsz _).grown hgrow (by rw [World.size_alloc]; omega) (fun q hq => (World.ownsRow.lt HD.out q hq).1)
        rw [cl_snoc] at hown'
        have HO := Lib.hid hown'
        have HB1 := Lib.hid hb1
        clear hown' hgrow hb1
        go_wp2
        go_ret
        refine ⟨v', k + 1, _, rfl, HO.out, fun j hj => ?_, hE.out, by omega, HB1.out⟩
        show (if j = k then c else d j) < _
        split
        · exact hc
        · exact HDB.out j (by omega)
def isDig (c : UInt8) : Bool := decide (48 <= c.toNat) && decide (c.toNat <= 57)
def okB (l : List UInt8) : Bool := decide (0 < l.length) && (decide (l.length <= 2000) && l.all isDig)
theorem isDig_iff {c : UInt8} : isDig c = true ↔ 48 <= c.toNat /\ c.toNat <= 57 := by simp [isDig]
theorem okB_digs {l : List UInt8} (h : okB l = true) : 0 < l.length /\ l.length <= 2000 /\ ∀ c ∈ l, 48 <= c.toNat /\ c.toNat <= 57 := by
 simp only [okB, Bool.and_eq_true, decide_eq_true_eq, List.all_eq_true] at h
 exact ⟨h.1, h.2.1, fun c hc => isDig_iff.1 (h.2.2 c hc)⟩
theorem okB_mk {l : List UInt8} (h1 : 0 < l.length) (h2 : l.length <= 2000) (h3 : ∀ c ∈ l, 48 <= c.toNat /\ c.toNat <= 57) : okB l = true := by
 simp only [okB, Bool.and_eq_true, decide_eq_true_eq, List.all_eq_true]
 exact ⟨h1, h2, fun c hc => isDig_iff.2 (h3 c hc)⟩
theorem numOf_snoc (c : UInt8) : ∀ l : List UInt8, numOf (l ++ [c]) = 10 * numOf l + (c.toNat - 48)
 | [] => by simp [numOf]
 | x :: l => by
  rw [List.cons_append, numOf, numOf_snoc c l, numOf, List.length_append, List.length_singleton, Nat.pow_succ, Nat.mul_add]
  have : (x.toNat - 48) * (10 ^ l.length * 10) = 10 * ((x.toNat - 48) * 10 ^ l.length) := by rw [← Nat.mul_assoc, Nat.mul_comm]
  omega
theorem take_snoc (s : ByteArray) (k : Nat) (h : k < s.size) : s.data.toList.take (k + 1) = s.data.toList.take k ++ [s[k]] := by
 rw [List.take_succ_eq_append_getElem (by simpa using h)]; rfl
def ParseOut (w w' : World) (e : Ending) (l : List UInt8) : Prop := ∃ a n c, e = .returned (.tuple #[.agg #[.slice a n c], .bool (okB l)]) /\ NatIs w' (.agg #[.slice a n c]) (if okB l then numOf l else 0) /\ (∀ x, a = some x -> w.heap.size <= x.block) /\ Below w.heap.size w w'
theorem parse_no {w w' : World} {l : List UInt8} (h : okB l = false) (hb : Below w.heap.size w w') : ParseOut w w' (.returned (.tuple #[.agg #[.slice none 0 0], .bool false])) l :=
 ⟨_, _, _, by rw [h], by rw [h]; exact NatIs.zero _, (fun x hx => by cases hx), hb⟩
def ParI (w wr : World) (s : ByteArray) (v : Value) (k : Nat) : Prop := Below w.heap.size w wr /\ Slot wr w.heap.size (.slice none 0 0) /\ (∀ c ∈ s.data.toList.take k, 48 <= c.toNat /\ c.toNat <= 57) /\
 ∃ n d, OwnL wr (w.heap.size + 1) 160 .u32 v n d /\ (∀ j, j < n -> d j < 4294967296) /\ n <= k /\ val d n = numOf (s.data.toList.take k)
theorem parse_any (s : ByteArray) (w : World) (hs : s.size <= maxLen) : Calls Tryz.prog 143 #[.string s] w fun e w' => ParseOut w w' e s.data.toList := by
 have hsl : s.data.toList.length = s.size := rfl
 unfold maxLen at hs
 have s0 := Slot.new w (.slice none 0 0) 49
 have hB : Below w.heap.size w (w.alloc (.cells #[.slice none 0 0] 49)) := (Below.refl _ _).alloc (Nat.le_refl _) _
 by_cases h0 : s.size = 0
 · have hn : okB s.data.toList = false := by simp [okB, hsl, h0]
   have HE := Lib.hid (parse_no hn hB)
   have h1 : ((s.size : Int) == 0) = true := by simp [h0]
   have h2 : s.data.toList = [] := List.eq_nil_of_length_eq_zero (by omega)
   clear s0 hB hn
   go_enter Tryz.func143, Tryz.ntmps143
   go_wp2
   exact bodyPost_ret (v := .tuple #[.agg #[.slice none 0 0], .bool false]) (by simp [results, Tryz.results143, go_sem]) rfl HE.out
 by_cases h1 : 2000 < s.size
 · have hn : okB s.data.toList = false := by simp only [okB, hsl]; simp; omega
   have HE := Lib.hid (parse_no hn hB)
   have h2 : ((s.size : Int) == 0) = false := by rw [beq_eq_false_iff_ne]; omega
   have h3 : decide ((2000 : Int) < (s.size : Int)) = true := decide_eq_true (by omega)
   clear s0 hB hn
   go_enter Tryz.func143, Tryz.ntmps143
   go_wp2
   exact bodyPost_ret (v := .tuple #[.agg #[.slice none 0 0], .bool false]) (by simp [results, Tryz.results143, go_sem]) rfl HE.out
 have H0 : ParI w (w.alloc (.cells #[.slice none 0 0] 49)) s (.slice none 0 0) 0 := ⟨hB, s0, by simp, 0, fun _ => 0, World.ownsRow_nil _ _ _ _, fun _ _ => by omega, by omega, rfl⟩
 have h2 : ((s.size : Int) == 0) = false := by rw [beq_eq_false_iff_ne]; omega
 have h3 : decide ((2000 : Int) < (s.size : Int)) = false := decide_eq_false (by omega)
 have h4 : s.size <= 2000 := by omega
 have h5 : 0 < s.size := by omega
 clear s0 hB h0 h1 hs
 have HSL := Lib.hid hsl
 clear hsl
 go_enter Tryz.func143, Tryz.ntmps143
 go_wp2
 go_loopw [4, 17] (fun u i wr => ∃ (k : Nat) (v : Value), k <= s.size /\ i = .int .i64 k /\ v = u /\ ParI w wr s v k)
  (fun _ i _ => s.size - (intOf i).toNat)
 case atStart => exact ⟨0, _, by omega, rfl, rfl, H0⟩
 case round =>
  obtain ⟨k, v, hk, rfl, rfl, hr⟩ := hrel
  obtain ⟨hbl, hsl, hdg, n, d, hd, hdb, hnk, hval⟩ := hr
  by_cases hlt : k < s.size
  · have hsn := take_snoc s k hlt
    obtain ⟨c, hc⟩ : ∃ c, s[k] = c := ⟨_, rfl⟩
    rw [hc] at hsn
    by_cases hdc : 48 <= c.toNat /\ c.toNat <= 57
    · obtain ⟨p, hp⟩ : ∃ p, c.toNat - 48 = p := ⟨_, rfl⟩
      have e1 : (c.toNat : Int) - 48 = (p : Int) := by omega
      have e2 : (p : Int) % 256 = (p : Int) := by omega
      have t1 : decide ((c.toNat : Int) < 48) = false := decide_eq_false (by omega)
      have t2 : decide ((57 : Int) < (c.toNat : Int)) = false := decide_eq_false (by omega)
      have hcl : (48 : Int) <= (c.toNat : Int) := by omega
      have hsz : w.heap.size + 1 <= wr.heap.size := hsl.lt
      have HT := Lib.hid (timesPlus_any (w.heap.size + 1) v n d 10 p wr hd hdb (by omega) (by omega) (by omega) hsz)
      have hnx : ∀ w1 v1 n1 d1, OwnL w1 (w.heap.size + 1) 160 .u32 v1 n1 d1 -> (∀ j, j < n1 -> d1 j < 4294967296) -> val d1 n1 = 10 * val d n + p -> n1 <= n + 1 -> Below (w.heap.size + 1) wr w1 -> ParI w w1 s v1 (k + 1) := by
       intro w1 v1 n1 d1 g1 g2 g3 g4 g5
       refine ⟨hbl.trans (g5.mono (by omega)), ⟨(g5.cell (p := ⟨w.heap.size, 0, none⟩) (Nat.lt_succ_self _)).trans hsl.cell, (g5.frozen (p := ⟨w.heap.size, 0, none⟩) (Nat.lt_succ_self _)).trans hsl.free, Nat.lt_of_lt_of_le hsl.lt g5.size⟩, ?_, n1, d1, g1, g2, by omega, ?_⟩
       · rw [hsn]
         intro x hx
         rcases List.mem_append.1 hx with h | h
         · exact hdg x h
         · rw [List.mem_singleton.1 h]; exact hdc
       · rw [hsn, numOf_snoc, g3, hval, hp]
      have HNX := Lib.hid hnx
      clear hnx hsn hdg hd hdb hval hbl hsl hdc hp hsz
      go_wp2_with (go_at_call 181; refine HT.out.mono ?_; rintro e w1 ⟨v1, n1, d1, rfl, g1, g2, g3, g4, g5⟩)
      have HN := Lib.hid (HNX.out w1 v1 n1 d1 g1 g2 g3 g4 g5)
      clear g1 g2 g3 g5
      go_roundw
      case rel => exact ⟨k + 1, v1, by omega, by go_num, rfl, HN.out⟩
      case measure => simp [intOf]; omega
    · have hn : okB s.data.toList = false := by
        cases hk : okB s.data.toList
        · rfl
        · exfalso
          have := (okB_digs hk).2.2 c (List.mem_of_mem_take (by rw [hsn]; exact List.mem_append_right _ List.mem_cons_self))
          exact hdc this
      have hc3 := hsl.cell
      have hf3 := hsl.free
      have HE := Lib.hid (parse_no (w := w) (w' := wr.setCell ⟨w.heap.size, 0, none⟩ (.slice none 0 0)) hn (hbl.setCell (Nat.le_refl _) _))
      by_cases h48 : c.toNat < 48
      · have t1 : decide ((c.toNat : Int) < 48) = true := decide_eq_true (by omega)
        clear hsn hdg hd hdb hval hbl hsl hdc hn
        go_wp2
        exact bodyPost_ret (v := .tuple #[.agg #[.slice none 0 0], .bool false]) (by simp [results, Tryz.results143, go_sem, hc3]) rfl HE.out
      · have t1 : decide ((c.toNat : Int) < 48) = false := decide_eq_false (by omega)
        have t2 : decide ((57 : Int) < (c.toNat : Int)) = true := decide_eq_true (by omega)
        clear hsn hdg hd hdb hval hbl hsl hdc hn
        go_wp2
        exact bodyPost_ret (v := .tuple #[.agg #[.slice none 0 0], .bool false]) (by simp [results, Tryz.results143, go_sem, hc3]) rfl HE.out
  · obtain rfl : k = s.size := by omega
    rw [List.take_of_length_le (by rw [HSL.out]; omega)] at hdg hval
    have hok : okB s.data.toList = true := okB_mk (by rw [HSL.out]; omega) (by rw [HSL.out]; omega) hdg
    obtain ⟨a, c, rfl, hsa, hpl⟩ := hd.slAt hdb (by omega)
    have HT := Lib.hid (trimmed_pl a n c d wr hsa)
    have S3 := Lib.hid hsl
    have HB := Lib.hid hbl
    have HOK := Lib.hid hok
    have HV := Lib.hid hval
    clear hbl hsl hdg hd hdb hval hok hsa
    go_wp2_with fail
    go_at_call 123
    refine HT.out.mono ?_
    rintro e w4 ⟨a3, n3, c3, f3, rfl, hs3, hv3, ht3, hp3, hb4⟩
    have X3 := S3.out.below hb4
    obtain ⟨v', hv', hn', hbe⟩ := natOut_store (u := .slice a3 n3 c3) (k := w.heap.size) (HB.out.trans (hb4.mono HB.out.size)) (Nat.le_refl _) hs3 (hv3.trans HV.out) ht3 (by
     rintro x rfl
     rcases hp3 with h | h
     · cases h
     · have := hpl x h.symm; omega)
    have hc4 := X3.cell
    have hf4 := X3.free
    have HEND : ParseOut w (w4.setCell ⟨w.heap.size, 0, none⟩ (.slice a3 n3 c3)) (.returned (.tuple #[.agg #[.slice a3 n3 c3], .bool true])) s.data.toList := by
     cases hv'
     exact ⟨a3, n3, c3, by rw [HOK.out], by rw [HOK.out, if_pos rfl]; exact hn', (fun x hx => by
      rcases hp3 with h | h
      · rw [h] at hx; cases hx
      · rw [h] at hx; have := hpl x hx; omega), hbe⟩
    have HE := Lib.hid HEND
    clear hs3 hv3 ht3 hb4 hp3 X3 hv' hn' hbe HEND
    go_wp2
    exact bodyPost_ret (v := .tuple #[.agg #[.slice a3 n3 c3], .bool true]) (by simp [results, Tryz.results143, go_sem, hc4]) rfl HE.out
theorem right_any (s : ByteArray) (w : World) (hs : s.size <= maxLen) : Calls Tryz.prog 98 #[.string s] w fun e w' => e = .returned (.bool (okB s.data.toList)) /\ w = w' := by
 have hsl : s.data.toList.length = s.size := rfl
 unfold maxLen at hs
 obtain ⟨b, hb⟩ : ∃ b, okB s.data.toList = b := ⟨_, rfl⟩
 rw [hb]
 have HB := Lib.hid hb
 have HSL := Lib.hid hsl
 clear hb hsl
 go_enter Tryz.func98, Tryz.ntmps98
 go_wp2
 go_loop [3] (fun i => ∃ k : Nat, k <= s.size /\ k <= 2001 /\ i = .int .i64 k /\ Hid (∀ c ∈ s.data.toList.take k, 48 <= c.toNat /\ c.toNat <= 57))
  (fun i => s.size - (intOf i).toNat)
 case atStart => exact ⟨0, by omega, by omega, rfl, by show ∀ c ∈ _, _; simp⟩
 case round =>
  obtain ⟨k, hk, hk2, rfl, hdg⟩ := hrel
  by_cases hlt : k < s.size
  · have d0 : decide ((k : Int) < (s.size : Int)) = true := decide_eq_true (by omega)
    by_cases h2k : k <= 2000
    · have d1 : decide ((k : Int) <= 2000) = true := decide_eq_true (by omega)
      have hsn := take_snoc s k hlt
      obtain ⟨c, hc⟩ : ∃ c, s[k] = c := ⟨_, rfl⟩
      rw [hc] at hsn
      have hbad : ¬ (48 <= c.toNat /\ c.toNat <= 57) -> b = false := by
       intro hdc
       rw [← HB.out]
       cases hk : okB s.data.toList
       · rfl
       · exfalso
         have := (okB_digs hk).2.2 c (List.mem_of_mem_take (by rw [hsn]; exact List.mem_append_right _ List.mem_cons_self))
         exact hdc this
      by_cases hdc : 48 <= c.toNat /\ c.toNat <= 57
      · have t1 : decide ((c.toNat : Int) < 48) = false := decide_eq_false (by omega)
        have t2 : decide ((57 : Int) < (c.toNat : Int)) = false := decide_eq_false (by omega)
        have hnx : Hid (∀ c ∈ s.data.toList.take (k + 1), 48 <= c.toNat /\ c.toNat <= 57) := by
         intro x hx
         rw [hsn] at hx
         rcases List.mem_append.1 hx with h | h
         · exact hdg.out x h
         · rw [List.mem_singleton.1 h]; exact hdc
        clear hsn hbad hdc
        go_wp2
        go_round
        case rel => exact ⟨k + 1, by omega, by omega, by go_num, hnx⟩
        case measure => simp [intOf]; omega
      · have hbf := Lib.hid (hbad hdc)
        clear hsn hbad
        by_cases h48 : c.toNat < 48
        · have t1 : decide ((c.toNat : Int) < 48) = true := decide_eq_true (by omega)
          clear hdc
          go_wp2
          go_ret
          exact ⟨by rw [hbf.out]; rfl, rfl⟩
        · have t1 : decide ((c.toNat : Int) < 48) = false := decide_eq_false (by omega)
          have t2 : decide ((57 : Int) < (c.toNat : Int)) = true := decide_eq_true (by omega)
          clear hdc
          go_wp2
          go_ret
          exact ⟨by rw [hbf.out]; rfl, rfl⟩
    · have d1 : decide ((k : Int) <= 2000) = false := decide_eq_false (by omega)
      have hbf : Hid (b = false) := by
       show _ = _
       rw [← HB.out]
       cases hk : okB s.data.toList
       · rfl
       · exfalso
         have := (okB_digs hk).2.1
         rw [HSL.out] at this; omega
      have d3 : decide ((1 : Int) <= (s.size : Int)) = true := decide_eq_true (by omega)
      have d4 : decide ((s.size : Int) <= 2000) = false := decide_eq_false (by omega)
      go_wp2
      go_ret
      exact ⟨by rw [hbf.out]; rfl, rfl⟩
  · obtain rfl : k = s.size := by omega
    have d0 : decide ((s.size : Int) < (s.size : Int)) = false := decide_eq_false (by omega)
    by_cases h1 : 1 <= s.size
    · have d3 : decide ((1 : Int) <= (s.size : Int)) = true := decide_eq_true (by omega)
      by_cases h4 : s.size <= 2000
      · have d4 : decide ((s.size : Int) <= 2000) = true := decide_eq_true (by omega)
        have hbf : Hid (b = true) := by
         show _ = _
         rw [← HB.out]
         refine okB_mk (by rw [HSL.out]; omega) (by rw [HSL.out]; omega) ?_
         have := hdg.out
         rw [List.take_of_length_le (by rw [HSL.out]; omega)] at this
         exact this
        go_wp2
        go_ret
        exact ⟨by rw [hbf.out]; rfl, rfl⟩
      · have d4 : decide ((s.size : Int) <= 2000) = false := decide_eq_false (by omega)
        have hbf : Hid (b = false) := by
         show _ = _
         rw [← HB.out]
         cases hk : okB s.data.toList
         · rfl
         · exfalso
           have := (okB_digs hk).2.1
           rw [HSL.out] at this; omega
        go_wp2
        go_ret
        exact ⟨by rw [hbf.out]; rfl, rfl⟩
    · have d3 : decide ((1 : Int) <= (s.size : Int)) = false := decide_eq_false (by omega)
      have hbf : Hid (b = false) := by
       show _ = _
       rw [← HB.out]
       cases hk : okB s.data.toList
       · rfl
       · exfalso
         have := (okB_digs hk).1
         rw [HSL.out] at this; omega
      go_wp2
      go_ret
      exact ⟨by rw [hbf.out]; rfl, rfl⟩
theorem digit_any (N n i : Nat) (w : World) (hN : N < 10 ^ n) (hn : n <= 10000000) (hi : i <= 100000000) : Calls Tryz.prog 194 #[.string (str (sdig N n)), .int .i64 i] w fun e w' => e = .returned (.int .i64 (d10 N i)) /\ w = w' := by
 obtain ⟨s, hs⟩ : ∃ s, str (sdig N n) = s := ⟨_, rfl⟩
 have hsz : s.size = n := by rw [← hs, str_size, sdig_length]
 rw [hs]
 by_cases h : i < n
 · obtain ⟨k, hk⟩ : ∃ k, n - 1 - i = k := ⟨_, rfl⟩
   have hks : k < s.size := by omega
   have hc : s[k].toNat = 48 + d10 N i := by
    have h1 := sdig_get N n k (by omega)
    rw [show n - 1 - k = i by omega] at h1
    have h2 : s[k] = dgt N i := by
     subst hs
     have h3 : (sdig N n)[k]? = some ((str (sdig N n))[k]) := by
      rw [List.getElem?_eq_getElem (by rw [sdig_length]; omega)]; rfl
     rw [h3] at h1
     exact Option.some.inj h1
    rw [h2, dgt_toNat]; rfl
   obtain ⟨c, hcc⟩ : ∃ c, s[k] = c := ⟨_, rfl⟩
   rw [hcc] at hc
   obtain ⟨x, hx⟩ : ∃ x, d10 N i = x := ⟨_, rfl⟩
   have hxl : x < 10 := by rw [← hx]; exact Nat.mod_lt _ (by omega)
   rw [hx] at hc ⊢
   have e1 : (s.size : Int) - 1 - (i : Int) = (k : Int) := by omega
   have e2 : (c.toNat : Int) - 48 = (x : Int) := by omega
   have e3 : (x : Int) % 256 = (x : Int) := by omega
   have e4 : (48 : Int) <= (c.toNat : Int) := by omega
   have d0 : decide ((s.size : Int) <= (i : Int)) = false := decide_eq_false (by omega)
   have i1 : (k : Int) < (s.size : Int) := by omega
   have h' : i < s.size := by omega
   have hsb : s.size <= 10000000 := by omega
   clear hs hx hc hk hsz hN
   go_enter Tryz.func194, Tryz.ntmps194
   go_wp2
   go_ret
   exact ⟨rfl, rfl⟩
 · have hz : d10 N i = 0 := by
     unfold d10
     have := Nat.pow_le_pow_right (show 0 < 10 by omega) (show n <= i by omega)
     rw [Nat.div_eq_of_lt (by omega)]
   rw [hz]
   have d0 : decide ((s.size : Int) <= (i : Int)) = true := decide_eq_true (by omega)
   have h' : s.size <= i := by omega
   clear hs hsz hN hz
   go_enter Tryz.func194, Tryz.ntmps194
   go_wp2
   go_ret
   exact ⟨rfl, rfl⟩
def carry (x y i : Nat) : Nat := (x % 10 ^ i + y % 10 ^ i) / 10 ^ i
theorem carry_zero (x y : Nat) : carry x y 0 = 0 := by simp [carry, Nat.mod_one]
theorem carry_step (x y i : Nat) : (d10 x i + d10 y i + carry x y i) % 10 = d10 (x + y) i /\ (d10 x i + d10 y i + carry x y i) / 10 = carry x y (i + 1) := by
 have hp : 0 < 10 ^ i := Nat.pow_pos (by omega)
 have hx : x % 10 ^ (i + 1) = x % 10 ^ i + 10 ^ i * d10 x i := by unfold d10; rw [Nat.pow_succ, Nat.mod_mul]
 have hy : y % 10 ^ (i + 1) = y % 10 ^ i + 10 ^ i * d10 y i := by unfold d10; rw [Nat.pow_succ, Nat.mod_mul]
 have hs : (x % 10 ^ (i + 1) + y % 10 ^ (i + 1)) / 10 ^ i = d10 x i + d10 y i + carry x y i := by
  rw [hx, hy]
  unfold carry
  rw [show x % 10 ^ i + 10 ^ i * d10 x i + (y % 10 ^ i + 10 ^ i * d10 y i) = (x % 10 ^ i + y % 10 ^ i) + 10 ^ i * (d10 x i + d10 y i) by rw [Nat.mul_add]; omega, Nat.add_mul_div_left _ _ hp]
  omega
 constructor
 · rw [← hs]
   unfold d10
   have e1 := Nat.div_add_mod x (10 ^ (i + 1))
   have e2 := Nat.div_add_mod y (10 ^ (i + 1))
   have : x + y = x % 10 ^ (i + 1) + y % 10 ^ (i + 1) + 10 ^ i * (10 * (x / 10 ^ (i + 1) + y / 10 ^ (i + 1))) := by
    have e3 : 10 ^ i * (10 * (x / 10 ^ (i + 1) + y / 10 ^ (i + 1))) = 10 ^ (i + 1) * (x / 10 ^ (i + 1)) + 10 ^ (i + 1) * (y / 10 ^ (i + 1)) := by rw [← Nat.mul_assoc, ← Nat.pow_succ, Nat.mul_add]
    omega
   rw [this, Nat.add_mul_div_left _ _ hp]
   omega
 · rw [← hs, Nat.div_div_eq_div_mul, ← Nat.pow_succ]; rfl
structure SumI (w wr : World) (Z : Nat) (V : Value) (k : Nat) : Prop where
 below : Below w.heap.size w wr
 own : OwnL wr w.heap.size 3 .i64 V k (d10 Z)
theorem cell_one_at (w : World) (x : Value) (t : TypeId) : ∀ j u, [x][j]? = some u -> (w.alloc (.cells #[x] t)).cell? ((⟨w.heap.size, 0, none⟩ : Addr).add j) = some u := by
 intro j u hj
 match j, hj with
 | 0, hj => simp at hj; subst hj; simp [Addr.add]
theorem one_cell_list (k : IntKind) (x : Int) : ∀ u ∈ [Value.int k x], u.oneCell' = true := by
 intro u hu; simp at hu; subst hu; rfl
theorem sum_next {w wr w5 : World} {Z : Nat} {V v' : Value} {k r : Nat} {o : Obj} (h : SumI w wr Z V k) (hown : w5.ownsRow w.heap.size 3 1 v' (k + 1) (cl .i64 (d10 Z) k ++ [.int .i64 r])) (hg : (wr.alloc o).grownBy w5 V.ownBlock)
    (hz : w.heap.size <= wr.heap.size) (hr : r = d10 Z k) : SumI w w5 Z v' (k + 1) := by
 refine ⟨(h.below.alloc hz _).grown hg (by rw [World.size_alloc]; omega) (fun q hq => (World.ownsRow.lt h.own q hq).1), ?_⟩
 rw [cl_snoc, cl_congr (g := d10 Z) (fun j hj => by
  by_cases e : j = k
  · rw [if_pos e, hr, e]
  · rw [if_neg e])] at hown
 exact hown
theorem numOf_sdig (N : Nat) : ∀ n, numOf (sdig N n) = N % 10 ^ n
 | 0 => by simp [sdig, numOf, Nat.mod_one]
 | n + 1 => by
  rw [sdig, numOf, numOf_sdig N n, sdig_length, dgt_toNat, Nat.pow_succ, Nat.mod_mul]
  rw [Nat.add_sub_cancel_left, Nat.mul_comm (N / 10 ^ n % 10)]
  omega
theorem sdig_inj {x y n : Nat} (hx : x < 10 ^ n) (hy : y < 10 ^ n) (h : sdig x n = sdig y n) : x = y := by
 have := congrArg numOf h
 rw [numOf_sdig, numOf_sdig, Nat.mod_eq_of_lt hx, Nat.mod_eq_of_lt hy] at this
 exact this
theorem less_sdig (x y : Nat) : ∀ n, Op.bytesLess (sdig x n) (sdig y n) = decide (x % 10 ^ n < y % 10 ^ n)
 | 0 => by simp [sdig, Op.bytesLess, Nat.mod_one]
 | n + 1 => by
  rw [sdig, sdig, Op.bytesLess, less_sdig x y n, Nat.pow_succ, Nat.mod_mul, Nat.mod_mul]
  have hp : 0 < 10 ^ n := Nat.pow_pos (by omega)
  have hx := Nat.mod_lt x hp
  have hy := Nat.mod_lt y hp
  have e1 : (dgt x n < dgt y n) ↔ x / 10 ^ n % 10 < y / 10 ^ n % 10 := by
   rw [UInt8.lt_iff_toNat_lt, dgt_toNat, dgt_toNat]; omega
  have e2 : (dgt x n = dgt y n) ↔ x / 10 ^ n % 10 = y / 10 ^ n % 10 := by
   rw [← UInt8.toNat_inj, dgt_toNat, dgt_toNat]; omega
  generalize x / 10 ^ n % 10 = a at *
  generalize y / 10 ^ n % 10 = b at *
  generalize x % 10 ^ n = u at *
  generalize y % 10 ^ n = v at *
  generalize 10 ^ n = P at *
  rw [Bool.eq_iff_iff]
  simp only [Bool.or_eq_true, decide_eq_true_eq, Bool.and_eq_true, beq_iff_eq, e1, e2]
  rcases Nat.lt_trichotomy a b with h | h | h
  · have h3 := Nat.mul_le_mul_left P (show a + 1 <= b from h)
    rw [Nat.mul_add] at h3
    constructor
    · intro _; omega
    · intro _; exact .inl h
  · subst h
    constructor
    · rintro (h | ⟨_, h⟩) <;> omega
    · intro h; exact .inr ⟨rfl, by omega⟩
  · have h3 := Nat.mul_le_mul_left P (show b + 1 <= a from h)
    rw [Nat.mul_add] at h3
    constructor
    · rintro (h1 | ⟨h1, _⟩) <;> omega
    · intro h1; omega
theorem dl_mono_lt {x y : Nat} (h : dl x < dl y) : x < y := by
 have h1 := dl_lt x
 have hy : 0 < y := by
  rcases Nat.eq_zero_or_pos y with h0 | h0
  · subst h0
    have e : dl 0 = 1 := by unfold dl; rfl
    have := dl_pos x; omega
  · exact h0
 have h2 := dl_low hy
 have := Nat.pow_le_pow_right (show 0 < 10 by omega) (show dl x <= dl y - 1 by omega)
 omega
theorem rcmp_any (x y : Nat) (w : World) (hx : dl x <= 100000) (hy : dl y <= 100000) : Calls Tryz.prog 157 #[.string (str (dec x)), .string (str (dec y))] w fun e w' => e = .returned (.int .i64 (cmpI x y)) /\ w = w' := by
 have hs1 : (str (dec x)).size = dl x := by rw [str_size]; exact sdig_length _ _
 have hs2 : (str (dec y)).size = dl y := by rw [str_size]; exact sdig_length _ _
 have ht1 : (str (dec x)).toList = dec x := by rw [ByteArray.toList_eq]; rfl
 have ht2 : (str (dec y)).toList = dec y := by rw [ByteArray.toList_eq]; rfl
 by_cases hl : dl x = dl y
 · have hle : dec y = sdig y (dl x) := by unfold dec; rw [hl]
   have hb : Op.bytesLess (str (dec x)).toList (str (dec y)).toList = decide (x < y) := by
    rw [ht1, ht2, hle]; unfold dec
    rw [less_sdig, Nat.mod_eq_of_lt (dl_lt x), Nat.mod_eq_of_lt (by rw [hl]; exact dl_lt y)]
   have heq : ((str (dec x)).toList == (str (dec y)).toList) = decide (x = y) := by
    rw [ht1, ht2, hle, Bool.eq_iff_iff, beq_iff_eq, decide_eq_true_eq]
    unfold dec
    exact ⟨fun h => sdig_inj (dl_lt x) (by rw [hl]; exact dl_lt y) h, fun h => by rw [h]⟩
   have hn : (((str (dec x)).size : Int) != ((str (dec y)).size : Int)) = false := by rw [hs1, hs2, hl]; simp
   have hss : (str (dec x)).size = (str (dec y)).size := by omega
   have hsb : (str (dec x)).size <= 100000 := by omega
   clear hs1 hs2 ht1 ht2 hle hl
   generalize str (dec x) = s at *
   generalize str (dec y) = t at *
   by_cases h1 : x = y
   · have hr : Hid (cmpI x y = 0) := by show _ = _; unfold cmpI; rw [if_neg (by omega), if_pos h1]
     rw [decide_eq_true h1] at heq
     clear hb hx hy h1
     have HSS := Lib.hid hss
     clear hss
     go_enter Tryz.func157, Tryz.ntmps157
     go_wp2
     go_ret
     exact ⟨ret_int hr.out.symm, rfl⟩
   · rw [decide_eq_false h1] at heq
     have HSS := Lib.hid hss
     clear hss
     by_cases h2 : x < y
     · have hr : Hid (cmpI x y = -1) := cmp_neg h2
       rw [decide_eq_true h2] at hb
       clear hx hy h1 h2
       go_enter Tryz.func157, Tryz.ntmps157
       go_wp2
       go_ret
       exact ⟨ret_int hr.out.symm, rfl⟩
     · have hr : Hid (cmpI x y = 1) := by show _ = _; unfold cmpI; rw [if_neg h2, if_neg h1]
       rw [decide_eq_false h2] at hb
       clear hx hy h1 h2
       go_enter Tryz.func157, Tryz.ntmps157
       go_wp2
       go_ret
       exact ⟨ret_int hr.out.symm, rfl⟩
 · have hn : (((str (dec x)).size : Int) != ((str (dec y)).size : Int)) = true := by rw [hs1, hs2]; simp; omega
   have hsb : (str (dec x)).size <= 100000 /\ (str (dec y)).size <= 100000 := by omega
   have hne : ¬ (str (dec x)).size = (str (dec y)).size := by omega
   have hc : ((str (dec x)).size < (str (dec y)).size -> cmpI x y = -1) /\ (¬ (str (dec x)).size < (str (dec y)).size -> cmpI x y = 1) := by
    rw [hs1, hs2]
    refine ⟨fun h => cmp_neg (dl_mono_lt h), fun h => ?_⟩
    have := dl_mono_lt (show dl y < dl x by omega)
    unfold cmpI; rw [if_neg (by omega), if_neg (by omega)]
   clear hs1 hs2 ht1 ht2 hl hx hy
   generalize str (dec x) = s at *
   generalize str (dec y) = t at *
   obtain ⟨hb1, hb2⟩ := hsb
   by_cases h : s.size < t.size
   · have hr := Lib.hid (hc.1 h)
     have d1 : decide ((s.size : Int) < (t.size : Int)) = true := decide_eq_true (by omega)
     clear hc hne
     go_enter Tryz.func157, Tryz.ntmps157
     go_wp2
     go_ret
     exact ⟨ret_int hr.out.symm, rfl⟩
   · have hr := Lib.hid (hc.2 h)
     have d1 : decide ((s.size : Int) < (t.size : Int)) = false := decide_eq_false (by omega)
     clear hc hne
     go_enter Tryz.func157, Tryz.ntmps157
     go_wp2
     go_ret
     exact ⟨ret_int hr.out.symm, rfl⟩
theorem rsub_any (x n y m : Nat) (w : World) (hx : x < 10 ^ n) (hy : y < 10 ^ m) (hn : n <= 1000) (hm : m <= 1000) (hxy : y <= x) :
    Calls Tryz.prog 167 #[.string (str (sdig x n)), .string (str (sdig y m))] w fun e w' => e = .returned (.string (str (dec (x - y)))) /\ Below w.heap.size w w' := by
 obtain ⟨i0, hi, hz0, hz1, hz2⟩ := info_parts infoI
 have DX := Lib.hid (fun i (h : i <= 100000000) wz => digit_any x n i wz hx (by omega) h)
 have DY := Lib.hid (fun i (h : i <= 100000000) wz => digit_any y m i wz hy (by omega) h)
 have hs1 : (str (sdig x n)).size = n := by rw [str_size, sdig_length]
 generalize str (sdig x n) = s at *
 generalize str (sdig y m) = t at *
 obtain ⟨z, hz⟩ : ∃ z, x - y = z := ⟨_, rfl⟩
 have hyz : y + z = x := by omega
 have HZN : Hid (z < 10 ^ n) := by show _ < _; omega
 rw [hz]
 have H0 : SumI w w z (.slice none 0 0) 0 := ⟨Below.refl _ _, World.ownsRow_nil _ _ _ _⟩
 have HI := Lib.hid hi
 have HC0 : Hid (0 = carry y z 0) := (carry_zero y z).symm
 have hL : s.size <= 1000 := by omega
 have HS1 := Lib.hid hs1
 have HYZ := Lib.hid hyz
 clear hi hx hy hs1 hn hm hz hyz hxy
 go_enter Tryz.func167, Tryz.ntmps167
 go_wp2
 go_loopw [5, 6, 7] (fun D c i wr => ∃ (k cy : Nat) (V : Value), k <= s.size /\ i = .int .i64 k /\ cy <= 1 /\ c = .int .i64 cy /\ Hid (cy = carry y z k) /\ V = D /\ SumI w wr z V k)
  (fun _ _ i _ => s.size - (intOf i).toNat)
 case atStart => exact ⟨0, 0, _, by omega, rfl, by omega, rfl, HC0, rfl, H0⟩
 case round =>
  obtain ⟨k, cy, V, hk, rfl, hcy, rfl, hcc, rfl, hr⟩ := hrel
  by_cases c1 : k < s.size
  · obtain ⟨dx, hdx⟩ : ∃ dx, d10 x k = dx := ⟨_, rfl⟩
    obtain ⟨dy, hdy⟩ : ∃ dy, d10 y k = dy := ⟨_, rfl⟩
    obtain ⟨dz, hdz⟩ : ∃ dz, d10 z k = dz := ⟨_, rfl⟩
    have CX := DX.out k (by omega)
    have CY := DY.out k (by omega)
    rw [hdx] at CX
    rw [hdy] at CY
    have hdyl : dy < 10 := by rw [← hdy]; exact Nat.mod_lt _ (by omega)
    have hdzl : dz < 10 := by rw [← hdz]; exact Nat.mod_lt _ (by omega)
    obtain ⟨q1, q2⟩ := carry_step y z k
    rw [HYZ.out, hdy, hdz, ← hcc.out, hdx] at q1
    rw [hdy, hdz, ← hcc.out] at q2
    have CX' := Lib.hid CX
    have CY' := Lib.hid CY
    have Q1 := Lib.hid hdz.symm
    have HR := Lib.hid hr
    have hzr : w.heap.size <= wr.heap.size := hr.below.size
    have d1 : decide ((k : Int) < (s.size : Int)) = true := decide_eq_true (by omega)
    by_cases hsm : dy + dz + cy < 10
    · have e1 : (dx : Int) - (dy : Int) - (cy : Int) = (dz : Int) := by omega
      have HNX : Hid (0 = carry y z (k + 1)) := by show _ = _; rw [← q2]; omega
      have d2 : decide ((dz : Int) < 0) = false := decide_eq_false (by omega)
      clear hr q1 q2 CX CY hdx hdy hdz hsm hcc
      go_wp2_with fail
      go_at_call 194
      refine (CX'.out wr).mono ?_
      rintro e w2 ⟨rfl, rfl⟩
      go_wp2_with fail
      go_at_call 194
      refine (CY'.out wr).mono ?_
      rintro e w2 ⟨rfl, rfl⟩
      go_wp2_with (at_builtin; refine wpList_append_own _ rfl _ _ 22 rfl w.heap.size 3 i0 (.int .i64 0) 1 8 Tryz.underlying22 HI.out hz0 hz1 hz2 rfl (by decide) _ _ _ rfl (World.ownsRow.alloc HR.out.own _) ⟨wr.heap.size, 0, none⟩ 1 1 [.int .i64 dz] rfl rfl (cell_one_at _ _ _) (one_cell_list _ _) (by unfold maxLen; omega) (by omega) (by rw [World.size_alloc]; omega) ?_; intro v' w5 hown' hgrow _)
      have HG5 := Lib.hid (sum_next HR.out hown' hgrow hzr Q1.out)
      clear hown' hgrow
      go_wp2
      go_roundw
      case rel => exact ⟨k + 1, 0, v', by omega, by go_num, by omega, rfl, HNX, rfl, HG5.out⟩
      case measure => simp [intOf]; omega
    · have e1 : (dx : Int) - (dy : Int) - (cy : Int) = (dz : Int) - 10 := by omega
      have HNX : Hid (1 = carry y z (k + 1)) := by show _ = _; rw [← q2]; omega
      have d2 : decide ((dz : Int) - 10 < 0) = true := decide_eq_true (by omega)
      have d3 : (dz : Int) < 10 := by omega
      have e2 : (dz : Int) - 10 + 10 = (dz : Int) := by omega
      clear hr q1 q2 CX CY hdx hdy hdz hsm hcc
      go_wp2_with fail
      go_at_call 194
      refine (CX'.out wr).mono ?_
      rintro e w2 ⟨rfl, rfl⟩
      go_wp2_with fail
      go_at_call 194
      refine (CY'.out wr).mono ?_
      rintro e w2 ⟨rfl, rfl⟩
      go_wp2_with (at_builtin; refine wpList_append_own _ rfl _ _ 22 rfl w.heap.size 3 i0 (.int .i64 0) 1 8 Tryz.underlying22 HI.out hz0 hz1 hz2 rfl (by decide) _ _ _ rfl (World.ownsRow.alloc HR.out.own _) ⟨wr.heap.size, 0, none⟩ 1 1 [.int .i64 dz] rfl rfl (cell_one_at _ _ _) (one_cell_list _ _) (by unfold maxLen; omega) (by omega) (by rw [World.size_alloc]; omega) ?_; intro v' w5 hown' hgrow _)
      have HG5 := Lib.hid (sum_next HR.out hown' hgrow hzr Q1.out)
      clear hown' hgrow
      go_wp2
      go_roundw
      case rel => exact ⟨k + 1, 1, v', by omega, by go_num, by omega, rfl, HNX, rfl, HG5.out⟩
      case measure => simp [intOf]; omega
  · obtain rfl : k = s.size := by omega
    obtain ⟨a, c, rfl, hsa, _⟩ := hr.own.slAt (m := 10) (fun j _ => Nat.mod_lt _ (by omega)) (by omega)
    have HW := Lib.hid (written_any a s.size c (d10 z) z wr hsa (fun _ _ => rfl) (by rw [HS1.out]; exact HZN.out))
    have HB := Lib.hid hr.below
    clear hsa hr
    go_wp2_with (go_at_call 184; refine HW.out.mono ?_; rintro e w7 ⟨rfl, hb7⟩)
    go_ret
    exact ⟨rfl, HB.out.trans (hb7.mono HB.out.size)⟩
theorem numOf_dec (N : Nat) : numOf (dec N) = N := by unfold dec; rw [numOf_sdig, Nat.mod_eq_of_lt (dl_lt N)]
theorem str_append (a b : List UInt8) : str a ++ str b = str (a ++ b) := by
 refine str_of ?_
 show (str a ++ str b).data.toList = _
 rw [ByteArray.data_append]
 simp [str]
theorem sdig_snoc (N : Nat) : ∀ n, sdig N (n + 1) = sdig (N / 10) n ++ [dgt N 0]
 | 0 => rfl
 | n + 1 => by
  rw [sdig, sdig_snoc N n, sdig]
  have e : dgt (N / 10) n = dgt N (n + 1) := by
   unfold dgt
   rw [Nat.div_div_eq_div_mul, Nat.pow_succ, Nat.mul_comm 10]
  rw [e]; rfl
theorem extract_one {s : ByteArray} {k : Nat} (hk : k < s.size) : s.extract k (k + 1) = str [s[k]] := by
 refine str_of ?_
 rw [Lib.extract_data]
 have h : k < s.data.toList.length := by simpa using hk
 rw [show k + 1 - k = 1 by omega]
 rw [List.drop_eq_getElem_cons h]
 rfl
theorem rest_digit (R x n k : Nat) (hk : k < n) (h : k < (str (sdig x n)).size) :
    str (dec R) ++ (str (sdig x n)).extract k (k + 1) = str (sdig (10 * R + d10 x (n - 1 - k)) (dl R + 1)) := by
 have hd := d10_lt x (n - 1 - k)
 have hc : (str (sdig x n))[k] = dgt (10 * R + d10 x (n - 1 - k)) 0 := by
  have h1 := sdig_get x n k hk
  have h3 : (sdig x n)[k]? = some ((str (sdig x n))[k]) := by
   rw [List.getElem?_eq_getElem (by rw [sdig_length]; omega)]; rfl
  rw [h3] at h1
  rw [Option.some.inj h1, ← UInt8.toNat_inj, dgt_toNat, dgt_toNat]
  show 48 + d10 x (n - 1 - k) = _
  rw [Nat.pow_zero, Nat.div_one]
  omega
 rw [extract_one h, str_append, sdig_snoc, hc]
 have e : (10 * R + d10 x (n - 1 - k)) / 10 = R := by omega
 rw [e]; rfl
theorem div_step (x y k n : Nat) (hy : 0 < y) (hk : k < n) (R : Nat) (hR : R = x / 10 ^ (n - k) % y) :
    (10 * R + d10 x (n - 1 - k)) / y = d10 (x / y) (n - 1 - k) /\ (10 * R + d10 x (n - 1 - k)) % y = x / 10 ^ (n - (k + 1)) % y := by
 obtain ⟨m, hm⟩ : ∃ m, n - 1 - k = m := ⟨_, rfl⟩
 have e1 : n - k = m + 1 := by omega
 have e2 : n - (k + 1) = m := by omega
 rw [hm, e2]
 rw [e1] at hR
 obtain ⟨A, hA⟩ : ∃ A, x / 10 ^ m = A := ⟨_, rfl⟩
 have hA2 : x / 10 ^ (m + 1) = A / 10 := by rw [Nat.pow_succ, ← Nat.div_div_eq_div_mul, hA]
 have hd : d10 x m = A % 10 := by unfold d10; rw [hA]
 have hq : d10 (x / y) m = A / y % 10 := by
  unfold d10
  rw [Nat.div_div_eq_div_mul, Nat.mul_comm, ← Nat.div_div_eq_div_mul, hA]
 rw [hA2] at hR
 rw [hA, hd, hq]
 obtain ⟨B, hB⟩ : ∃ B, A / 10 = B := ⟨_, rfl⟩
 rw [hB] at hR
 have hAB : A = 10 * B + A % 10 := by omega
 have hBm := Nat.div_add_mod B y
 rw [← hR] at hBm
 have hRl : R < y := by rw [hR]; exact Nat.mod_lt _ hy
 -- A = y * (10 * (B / y)) + (10 * R + A % 10)
 have hA3 : A = y * (10 * (B / y)) + (10 * R + A % 10) := by
  have : y * (10 * (B / y)) = 10 * (y * (B / y)) := by rw [← Nat.mul_assoc, Nat.mul_comm y 10, Nat.mul_assoc]
  omega
 have hT : 10 * R + A % 10 < 10 * y := by omega
 obtain ⟨T, hTT⟩ : ∃ T, 10 * R + A % 10 = T := ⟨_, rfl⟩
 rw [hTT] at hA3 hT ⊢
 have g1 : A / y = 10 * (B / y) + T / y := by rw [hA3, Nat.mul_add_div hy]
 have g2 : A % y = T % y := by rw [hA3, Nat.mul_add_mod]
 have g3 : T / y < 10 := by rw [Nat.div_lt_iff_lt_mul hy]; omega
 rw [g1, g2]
 generalize T / y = t at *
 generalize B / y = u at *
 exact ⟨by omega, rfl⟩
theorem rdivMod_any (x y : Nat) (w : World) (hx : dl x <= 900) (hy : dl y <= 900) (hy0 : 0 < y) :
    Calls Tryz.prog 142 #[.string (str (dec x)), .string (str (dec y))] w fun e w' => e = .returned (.tuple #[.string (str (dec (x / y))), .string (str (dec (x % y)))]) /\ Below w.heap.size w w' := by
 obtain ⟨i0, hi, hz0, hz1, hz2⟩ := info_parts infoB
 obtain ⟨n, hn⟩ : ∃ n, dl x = n := ⟨_, rfl⟩
 have hn0 : 0 < n := by rw [← hn]; exact dl_pos x
 have hxn : x < 10 ^ n := by rw [← hn]; exact dl_lt x
 have ha : str (dec x) = str (sdig x n) := by unfold dec; rw [hn]
 have hsz : (str (sdig x n)).size = n := by rw [str_size, sdig_length]
 rw [ha]
 have HRD : Hid (∀ R k (h : k < (str (sdig x n)).size), str (dec R) ++ (str (sdig x n)).extract k (k + 1) = str (sdig (10 * R + d10 x (n - 1 - k)) (dl R + 1))) := fun R k h => rest_digit R x n k (by omega) h
 obtain ⟨a, hae⟩ : ∃ a, str (sdig x n) = a := ⟨_, rfl⟩
 rw [hae] at hsz HRD ⊢
 have hb : ∀ R, dl R <= 1000 -> ∀ wz, Calls Tryz.prog 157 #[.string (str (dec R)), .string (str (dec y))] wz fun e w' => e = .returned (.int .i64 (cmpI R y)) /\ wz = w' := fun R hR wz => rcmp_any R y wz (by omega) (by omega)
 have hs : ∀ R, y <= R -> dl R <= 1000 -> ∀ wz, Calls Tryz.prog 167 #[.string (str (dec R)), .string (str (dec y))] wz fun e w' => e = .returned (.string (str (dec (R - y)))) /\ Below wz.heap.size wz w' := fun R hR hl wz => rsub_any R (dl R) y (dl y) wz (dl_lt _) (dl_lt _) hl (by omega) hR
 obtain ⟨b, hbe⟩ : ∃ b, str (dec y) = b := ⟨_, rfl⟩
 rw [hbe] at hb hs ⊢
 have CM := Lib.hid hb
 have SB := Lib.hid hs
 have HX := Lib.hid hxn
 have HI := Lib.hid hi
 have HY := Lib.hid hy0
 have hnl : n <= 900 := by omega
 have HYL := Lib.hid hy
 obtain ⟨z, hz, hmk⟩ := make_bytes a.size (by omega)
 have H0 : Hid (WrI w (w.alloc (.cells z 5)) w.heap.size (x / y) n (.slice (some ⟨w.heap.size, 0, none⟩) 0 a.size) 0) :=
  ⟨(Below.refl _ _).alloc (Nat.le_refl _) _, World.ownsRow_made w z a.size (Nat.le_refl _) (by unfold maxLen; omega) (by omega)⟩
 have HSZ := Lib.hid hsz
 have hal : a.size <= 900 := by omega
 have HR0 : Hid (0 = x / 10 ^ (n - 0) % y) := by show _ = _; rw [Nat.sub_zero, Nat.div_eq_of_lt hxn, Nat.zero_mod]
 have hd0 : (⟨#[48]⟩ : ByteArray) = str (dec 0) := by rw [dec_zero]; rfl
 have HD0 := Lib.hid hd0
 clear hb hs hxn hi hy0 hz hsz ha hae hbe hn hx hy hd0
 go_enter Tryz.func142, Tryz.ntmps142
 go_wp2
 go_loopw [6, 7, 8] (fun D rs i wr => ∃ (k R : Nat) (V : Value) (r : ByteArray), k <= a.size /\ i = .int .i64 k /\ rs = .string r /\ Hid (r = str (dec R)) /\ Hid (R = x / 10 ^ (n - k) % y) /\ V = D /\ WrI w wr w.heap.size (x / y) n V k)
  (fun _ _ i _ => a.size - (intOf i).toNat)
 case atStart => exact ⟨0, 0, _, _, by omega, rfl, rfl, HD0.out, HR0.out, rfl, H0.out⟩
 case round =>
  obtain ⟨k, R, V, r, hk, rfl, rfl, hr, hR, rfl, hw⟩ := hrel
  by_cases hlt : k < a.size
  · have hkn : k < n := by have := HSZ.out; omega
    have hRD := HRD.out R k hlt
    rw [← hr.out] at hRD
    obtain ⟨T, hT⟩ : ∃ T, 10 * R + d10 x (n - 1 - k) = T := ⟨_, rfl⟩
    obtain ⟨g1, g2⟩ := div_step x y k n HY.out hkn R hR.out
    rw [hT] at g1 g2 hRD
    have hRl : R < y := by rw [hR.out]; exact Nat.mod_lt _ HY.out
    have hdR : dl R <= 900 := by
     have h1 := HYL.out
     refine Nat.le_trans (dl_le R (dl y) (dl_pos y) (Nat.lt_trans hRl (dl_lt y))) h1
    have hTl : T < 10 ^ (dl R + 1) := by
     have h1 := dl_lt R
     have h2 := d10_lt x (n - 1 - k)
     rw [Nat.pow_succ]; omega
    have hT10 : T < 10 * y := by have h2 := d10_lt x (n - 1 - k); omega
    have hdT : dl T <= 1000 := by have := dl_le T (dl R + 1) (by omega) hTl; omega
    have TR : Hid (∀ wz, Calls Tryz.prog 99 #[.string (r ++ a.extract k (k + 1))] wz fun e w' => e = .returned (.string (str (dec T))) /\ wz = w') := by
     intro wz
     rw [hRD]
     exact trim_any T (dl R + 1) wz (by omega) hTl (by omega)
    have HT0 : Hid (str (dec T) = str (dec (T - 0 * y)) /\ 0 * y <= T) := ⟨by simp, by simp⟩
    obtain ⟨t, ht⟩ : ∃ t, str (dec T) = t := ⟨_, rfl⟩
    rw [ht] at TR HT0
    have G1 := Lib.hid g1
    have G2 := Lib.hid g2
    have HW := Lib.hid hw
    have HDT := Lib.hid hdT
    have HT10 := Lib.hid hT10
    have hrsz : r.size <= 900 := by rw [hr.out, str_size]; unfold dec; rw [sdig_length]; exact hdR
    clear hRD g1 g2 hRl hdR hTl hT10 hdT ht hw hr hR hT
    go_wp2_with (go_at_call 99; (with_reducible refine (TR.out _).mono ?_); rintro e w1 ⟨rfl, rfl⟩)
    go_loopw [7, 9] (fun rs c wi => ∃ (cc : Nat) (r2 : ByteArray), cc <= 9 /\ c = .int .i64 cc /\ rs = .string r2 /\ Hid (r2 = str (dec (T - cc * y)) /\ cc * y <= T) /\ WrI w wi w.heap.size (x / y) n V k)
     (fun _ c _ => 10 - (intOf c).toNat)
    case atStart => exact ⟨0, _, by omega, rfl, rfl, HT0.out, HW.out⟩
    case round =>
     obtain ⟨cc, r2, hcc, rfl, rfl, hr2, hwi⟩ := hrel
     have hdS : dl (T - cc * y) <= 1000 := Nat.le_trans (dl_le _ (dl T) (dl_pos T) (Nat.lt_of_le_of_lt (Nat.sub_le _ _) (dl_lt T))) HDT.out
     have CMS := CM.out (T - cc * y) hdS
     rw [← hr2.out.1] at CMS
     by_cases hge : y <= T - cc * y
     · obtain ⟨q, hq⟩ := cmp_pos hge
       rw [hq] at CMS
       have SBS := SB.out (T - cc * y) hge hdS
       rw [← hr2.out.1] at SBS
       have hmul : (cc + 1) * y = cc * y + y := by rw [Nat.add_mul, Nat.one_mul]
       have hnx : (T - cc * y - y = T - (cc + 1) * y) /\ (cc + 1) * y <= T := ⟨by rw [hmul]; omega, by rw [hmul]; have := HY.out; omega⟩
       have hc9 : cc + 1 <= 9 := by
        rcases Nat.lt_or_ge cc 9 with h | h
        · omega
        · have h1 := Nat.mul_le_mul_right y (show 10 <= cc + 1 by omega)
          rw [hmul] at h1
          have := HT10.out; omega
       have HNX : Hid (str (dec (T - cc * y - y)) = str (dec (T - (cc + 1) * y)) /\ (cc + 1) * y <= T) := ⟨by rw [hnx.1], hnx.2⟩
       obtain ⟨t2, ht2⟩ : ∃ t2, str (dec (T - cc * y - y)) = t2 := ⟨_, rfl⟩
       rw [ht2] at HNX SBS
       have C1 := Lib.hid CMS
       have S1 := Lib.hid SBS
       have HWI := Lib.hid hwi
       have d1 : decide ((cc : Int) < 10) = true := decide_eq_true (by omega)
       clear CMS SBS hmul hnx hge hq hdS hr2 hwi ht2
       go_wp2_with fail
       go_at_call 157
       (with_reducible refine (C1.out _).mono ?_)
       rintro e w2 ⟨rfl, rfl⟩
       go_wp2_with fail
       go_at_call 167
       (with_reducible refine (S1.out _).mono ?_)
       rintro e w3 ⟨rfl, hb3⟩
       have HW3 : Hid (WrI w w3 w.heap.size (x / y) n V k) := ⟨HWI.out.below.trans (hb3.mono HWI.out.below.size), HWI.out.own.below hb3⟩
       clear hb3
       go_wp2
       go_roundw
       case rel => exact ⟨cc + 1, t2, hc9, by go_num, rfl, HNX.out, HW3.out⟩
       case measure => simp [intOf]; omega
     · rw [cmp_neg (show T - cc * y < y by omega)] at CMS
       have C1 := Lib.hid CMS
       have hy0 := HY.out
       have hqT : T / y = cc := by
        have h1 : T = cc * y + (T - cc * y) := by have := hr2.out.2; omega
        rw [h1, Nat.add_comm, Nat.add_mul_div_right _ _ hy0, Nat.div_eq_of_lt (by omega)]; omega
       have hrT : T % y = T - cc * y := by
        have h1 : T = cc * y + (T - cc * y) := by have := hr2.out.2; omega
        have h2 : (cc * y + (T - cc * y)) % y = T - cc * y := by rw [Nat.add_comm, Nat.add_mul_mod_self_right, Nat.mod_eq_of_lt (by omega)]
        rw [← h1] at h2; exact h2
       obtain ⟨yy, hyy⟩ : ∃ yy, 48 + cc = yy := ⟨_, rfl⟩
       have e2 : (48 : Int) + (cc : Int) = (yy : Int) := by omega
       have e3 : (yy : Int) % 256 = (yy : Int) := by omega
       have HYD : Hid (yy = dg (x / y) (n - 1 - k)) := by show _ = _; rw [dg_d10, ← G1.out, hqT, hyy]
       have HRN : Hid (r2 = str (dec (T - cc * y)) /\ T - cc * y = x / 10 ^ (n - (k + 1)) % y) := ⟨hr2.out.1, by rw [← hrT]; exact G2.out⟩
       have HWI := Lib.hid hwi
       have hzr : w.heap.size <= wr.heap.size := hwi.below.size
       have hkn1 : k + 1 <= a.size := hlt
       have hccl : cc <= 9 := hcc
       clear CMS hge hdS hr2 hwi hqT hrT hyy hy0
       go_wp2_with fail
       go_at_call 157
       (with_reducible refine (C1.out _).mono ?_)
       rintro e w2 ⟨rfl, rfl⟩
       go_wp2_with (at_builtin; refine wpList_append_own _ rfl _ _ 158 rfl w.heap.size 5 i0 (.int .u8 0) 1 1 Tryz.underlying158 HI.out hz0 hz1 hz2 rfl (by decide) _ _ _ rfl (World.ownsRow.alloc HWI.out.own _) ⟨wr.heap.size, 0, none⟩ 1 1 [.int .u8 yy] rfl rfl (cell_one_at _ _ _) (one_cell_list _ _) (by unfold maxLen; omega) (by omega) (by rw [World.size_alloc]; omega) ?_; intro v' w5 hown' hgrow _)
       have hb5 : Below w.heap.size w w5 := (HWI.out.below.alloc hzr _).grown hgrow (by rw [World.size_alloc]; omega) (fun q hq => (World.ownsRow.lt HWI.out.own q hq).1)
       have hown2 : OwnL w5 w.heap.size 5 .u8 v' (k + 1) (fun j => dg (x / y) (n - 1 - j)) := by
        rw [cl_snoc, cl_congr (g := fun j => dg (x / y) (n - 1 - j)) (fun j hj => by
         by_cases e : j = k
         · rw [if_pos e, HYD.out, e]
         · rw [if_neg e])] at hown'
        exact hown'
       have HG5 := Lib.hid (show WrI w w5 w.heap.size (x / y) n v' (k + 1) from ⟨hb5, hown2⟩)
       clear hown' hgrow hb5 hown2
       go_wp2
       go_roundw
       case rel => exact ⟨k + 1, T - cc * y, v', r2, hkn1, by go_num, rfl, HRN.out.1, HRN.out.2, rfl, HG5.out⟩
       case measure => simp [intOf]; omega
  · obtain rfl : k = a.size := by omega
    have hsz' := HSZ.out
    have hRx : R = x % y := by rw [hR.out, hsz', Nat.sub_self, Nat.pow_zero, Nat.div_one]
    have hdx := Nat.div_le_self x y
    rcases hw.own.cases with ⟨hV, hk0⟩ | ⟨g, c2, rfl, hc2, hgb, hgl, hgc, hgf⟩
    · exfalso; omega
    · have hcv := run_convert_bytes_arg (P := Tryz.prog) (w := wr) 158 5 Tryz.underlying158 Tryz.underlying5 g 0 a.size c2 ((List.range a.size).map fun j => ((dg (x / y) (n - 1 - j) : Nat) : Int)) (by simp) (fun j hj => by rw [hgc j hj]; simp [hj]) 9 Tryz.underlying9
      have hst : strOfNums ((List.range a.size).map fun j => ((dg (x / y) (n - 1 - j) : Nat) : Int)) = str (sdig (x / y) n) := by
       rw [hsz']
       refine str_of ?_
       rw [strOfNums_data]
       apply List.ext_getElem?
       intro j
       by_cases hj : j < n
       · rw [sdig_get (x / y) n j hj, List.getElem?_map, List.getElem?_map, List.getElem?_range hj]
         simp only [Option.map_some]
         rw [Int.toNat_natCast]; rfl
       · rw [List.getElem?_eq_none (by simp; omega), List.getElem?_eq_none (by rw [sdig_length]; omega)]
      rw [hst] at hcv
      have HT := Lib.hid (trim_any (x / y) n wr (by omega) (Nat.lt_of_le_of_lt hdx HX.out) (by omega))
      have HB := Lib.hid hw.below
      have HRR : Hid (r = str (dec (x % y))) := by show _ = _; rw [hr.out, hRx]
      clear hw hgc hgf hst hr hR hRx hsz'
      go_wp2_with fail
      go_at_call 99
      refine HT.out.mono ?_
      rintro e w7 ⟨rfl, rfl⟩
      clear hcv
      go_wp2
      go_ret2
      exact ⟨by rw [HRR.out]; rfl, HB.out⟩
theorem loQ_mul (P : Int) (Q : Nat) : rg P Q * loQ P Q = Q := Nat.mul_div_cancel' (Nat.gcd_dvd_right _ _)
theorem sgn_times (b : Bool) (N M : Nat) : sgn b (N * M) = N * sgn b M := by
 cases b <;> simp [sgn, Int.mul_neg]
theorem loP_mul (P : Int) (Q : Nat) : (rg P Q : Int) * loP P Q = P := by
 unfold loP
 rw [← sgn_times, show rg P Q * (P.natAbs / rg P Q) = P.natAbs from Nat.mul_div_cancel' (Nat.gcd_dvd_left _ _), sgn_self]
theorem loP_zero {P : Int} {Q : Nat} : loP P Q = 0 ↔ P = 0 := by
 constructor
 · intro h1
   have := loP_mul P Q
   rw [h1] at this; omega
 · intro h1
   have := loP_absle P Q
   rw [h1] at this ⊢
   omega
theorem loP_neg {P : Int} {Q : Nat} : decide (loP P Q < 0) = decide (P < 0) := by
 have h1 : (P.natAbs / rg P Q = 0) ↔ P = 0 := by
  rw [← loP_abs]
  have := loP_zero (P := P) (Q := Q)
  constructor
  · intro h2; exact this.1 (by omega)
  · intro h2; rw [this.2 h2]; rfl
 unfold loP
 rw [sgn_neg]
 by_cases h2 : P < 0
 · rw [decide_eq_true h2, decide_eq_false (fun h3 => by have := h1.1 h3; omega)]; rfl
 · rw [decide_eq_false h2]; rfl
theorem lo_cop (P : Int) {Q : Nat} (h : 0 < Q) : Nat.gcd (loP P Q).natAbs (loQ P Q) = 1 := by
 rw [loP_abs]
 exact Nat.Coprime.gcd_eq_one (Nat.coprime_div_gcd_div_gcd (rg_pos P h))
theorem lo_cross (P : Int) (Q : Nat) : loP P Q * Q = P * loQ P Q := by
 have h1 := loP_mul P Q
 have h2 : ((rg P Q : Int) * (loQ P Q : Int)) = Q := by rw [← Int.natCast_mul, loQ_mul]
 calc loP P Q * Q = loP P Q * (rg P Q * loQ P Q) := by rw [h2]
  _ = (rg P Q * loP P Q) * loQ P Q := by rw [← Int.mul_assoc, Int.mul_comm (loP P Q)]
  _ = P * loQ P Q := by rw [h1]
theorem upZ_sgn (P Y : Int) : decide (upZ P Y < 0) = ((decide (P < 0) != decide (Y < 0)) && !decide (P = 0)) := by
 unfold upZ
 by_cases h : Y < 0
 · rw [if_pos h, decide_eq_true h]
   by_cases h1 : P < 0
   · rw [decide_eq_true h1, decide_eq_false (by omega)]; rfl
   · rw [decide_eq_false h1]
     by_cases h2 : P = 0
     · rw [decide_eq_false (by omega), decide_eq_true h2]; rfl
     · rw [decide_eq_true (by omega), decide_eq_false h2]; rfl
 · rw [if_neg h, decide_eq_false h]
   by_cases h1 : P < 0
   · rw [decide_eq_true h1, decide_eq_false (by omega)]; rfl
   · rw [decide_eq_false h1]; rfl
end Go.Proofs.YtpdcdebnkbnogaaGreatDoor
namespace Go.Proofs.YtpdcdebnkbnogaaGreatDoor
open Go.RowKit
attribute [local go_sem ↓] Go.wp_at_zero Go.wp_at_succ
end Go.Proofs.YtpdcdebnkbnogaaGreatDoor
namespace Go.Proofs.YtpdcdebnkbnogaaGreatDoor
open Go.RowKit
theorem str_inj {l : List UInt8} {s : ByteArray} : str l = s ↔ l = s.data.toList := by
 constructor
 · intro h; rw [← h]; rfl
 · intro h; rw [h]; rfl
theorem lo_gcd1 {N M : Nat} (hM : 0 < M) (h : M / Nat.gcd N M = M) : Nat.gcd N M = 1 := by
 have hg : 0 < Nat.gcd N M := Nat.gcd_pos_of_pos_right _ hM
 rcases Nat.lt_or_ge 1 (Nat.gcd N M) with h1 | h1
 · have := Nat.div_lt_self hM h1; omega
 · omega
theorem of_right (b : Bool) (s t : ByteArray) (hM : 0 < numOf t.data.toList) :
    decide (rB (loP (sgn b (numOf s.data.toList)) (numOf t.data.toList)) = b /\ rS (loP (sgn b (numOf s.data.toList)) (numOf t.data.toList)) = s /\ str (dec (loQ (sgn b (numOf s.data.toList)) (numOf t.data.toList))) = t)
     = (decide (str (dec (numOf s.data.toList)) = s) && (decide (str (dec (numOf t.data.toList)) = t) && (decide (Nat.gcd (numOf s.data.toList) (numOf t.data.toList) = 1) && !(b && decide (numOf s.data.toList = 0))))) := by
 have ha : (sgn b (numOf s.data.toList)).natAbs = numOf s.data.toList := sgn_abs _ _
 have e1 : (loP (sgn b (numOf s.data.toList)) (numOf t.data.toList)).natAbs = numOf s.data.toList / Nat.gcd (numOf s.data.toList) (numOf t.data.toList) := by rw [loP_abs]; unfold rg; rw [ha]
 have e2 : loQ (sgn b (numOf s.data.toList)) (numOf t.data.toList) = numOf t.data.toList / Nat.gcd (numOf s.data.toList) (numOf t.data.toList) := by unfold loQ rg; rw [ha]
 have e3 : rB (loP (sgn b (numOf s.data.toList)) (numOf t.data.toList)) = (b && !decide (numOf s.data.toList = 0)) := by
  unfold rB; rw [loP_neg]; exact sgn_neg _ _
 rw [e2, e3]
 unfold rS
 rw [e1]
 rw [Bool.eq_iff_iff, decide_eq_true_eq, Bool.and_eq_true, Bool.and_eq_true, Bool.and_eq_true, decide_eq_true_eq, decide_eq_true_eq, decide_eq_true_eq]
 constructor
 · rintro ⟨h1, h2, h3⟩
   have n1 : numOf s.data.toList / Nat.gcd (numOf s.data.toList) (numOf t.data.toList) = numOf s.data.toList := by
    have := congrArg numOf (str_inj.1 h2); rw [numOf_dec] at this; exact this
   have n2 : numOf t.data.toList / Nat.gcd (numOf s.data.toList) (numOf t.data.toList) = numOf t.data.toList := by
    have := congrArg numOf (str_inj.1 h3); rw [numOf_dec] at this; exact this
   rw [n1] at h2
   rw [n2] at h3
   refine ⟨h2, h3, lo_gcd1 hM n2, ?_⟩
   cases b
   · rfl
   · simpa using h1
 · rintro ⟨h1, h2, h3, h4⟩
   rw [h3, Nat.div_one, Nat.div_one]
   refine ⟨?_, h1, h2⟩
   cases b
   · rfl
   · simpa using h4
end Go.Proofs.YtpdcdebnkbnogaaGreatDoor
namespace Go.Proofs.YtpdcdebnkbnogaaGreatDoor
open Go.RowKit Go.WideMaps Go.WideElems
theorem dec_eq_digit (N d : Nat) (hd : d < 10) : ((str (dec N)).toList == [UInt8.ofNat (48 + d)]) = decide (N = d) := by
 rw [Bool.eq_iff_iff, beq_iff_eq, decide_eq_true_eq, ByteArray.toList_eq, str_toList, ← dec_small hd]
 constructor
 · intro h
   have := congrArg numOf h
   rw [numOf_dec, numOf_dec] at this
   exact this
 · intro h; rw [h]
end Go.Proofs.YtpdcdebnkbnogaaGreatDoor
namespace Go.Proofs.YtpdcdebnkbnogaaGreatDoor
open Go.RowKit
end Go.Proofs.YtpdcdebnkbnogaaGreatDoor
namespace Go.Proofs.YtpdcdebnkbnogaaGreatDoor
open Go.RowKit
attribute [local go_sem ↓] Go.wp_at_zero Go.wp_at_succ
theorem shifted0_any (a : Option Addr) (n c : Nat) (k : Int) (w : World) (h : NatIs w (.agg #[.slice a n c]) 0) :
    Calls Tryz.prog 144 #[.agg #[.slice a n c], .int .i64 k] w fun e w' => NatTold2 w w' e (.agg #[.slice a n c]) 0 := by
 have B0 := (((Bag.start w).nat h).box (.slice a n c) 49).box (.slice none 0 0) 49
 simp only [World.size_alloc] at B0
 have ZE := Lib.hid (fun wz (h : NatIs wz (.agg #[.slice a n c]) 0) => zero_any _ 0 wz h)
 rw [decide_eq_true rfl] at ZE
 have BB := Lib.hid B0
 have q0 := B0.now.2.1.cell
 clear h B0
 go_enter Tryz.func144, Tryz.ntmps144
 go_wp2_with fail
 go_at_call 102
 (with_reducible refine (ZE.out _ BB.out.now.2.2.1).mono ?_)
 rintro e w2 ⟨rfl, hb2⟩
 have BB := Lib.hid (BB.out.go hb2)
 have q0 := BB.out.now.2.1.cell
 have hs := BB.out.now.1
 have hc := hs.cell
 have hf := hs.free
 have HS := World.cell?_setCell_same w2 ⟨w.heap.size + 1, 0, none⟩ (.slice a n c) hc
 have HE : Hid (NatTold2 w (w2.setCell ⟨w.heap.size + 1, 0, none⟩ (.slice a n c)) (.returned (.agg #[.slice a n c])) (.agg #[.slice a n c]) 0) := ⟨rfl, BB.out.now.2.2.1.storeAt hc (fun _ _ h => by cases h) _, BB.out.below.setCell (p := ⟨w.heap.size + 1, 0, none⟩) (show w.heap.size <= w.heap.size + 1 by omega) _⟩
 clear hb2 hs
 go_wp2
 exact bodyPost_ret (v := .agg #[.slice a n c]) (by simp [results, Tryz.results144, go_sem, HS]) rfl HE.out
theorem ratRead_yes (s : ByteArray) (w : World) (hs : s.size <= 2000) (hok : okB s.data.toList = true) :
    Calls Tryz.prog 101 #[.string s] w fun e w' => SubOf3 w w' e (numOf s.data.toList) true := by
 have B0 := (Bag.start w).box (.slice none 0 0) 49 |>.box (.slice none 0 0) 49
 simp only [World.size_alloc] at B0
 have PA := Lib.hid (fun wz => parse_any s wz (by unfold maxLen; omega))
 unfold ParseOut at PA
 rw [hok] at PA
 have BB := Lib.hid B0
 go_enter Tryz.func101, Tryz.ntmps101
 go_wp2
 have hsz : ¬ ((s.size : Int) > 2000) := by omega
 go_loopw [0] (fun i wr => i = .string s /\ wr = ((w.alloc (.cells #[.slice none 0 0] 49)).alloc (.cells #[.slice none 0 0] 49))) (fun _ _ => 0)
 case atStart => exact ⟨rfl, rfl⟩
 case round =>
  obtain ⟨rfl, rfl⟩ := hrel
  go_wp2_with fail
  go_at_call 143
  (with_reducible refine (PA.out _).mono ?_)
  rintro e w2 ⟨a, n, c, rfl, hv, _, hb2⟩
  rw [if_pos trivial] at hv
  have hk2 := (BB.out.go hb2).now.1.lt
  have BB := Lib.hid (((BB.out.go hb2).nat hv).box (.slice a n c) 49)
  have he : w.heap.size + 1 ≠ w.heap.size /\ w2.heap.size ≠ w.heap.size := by omega
  have SH := Lib.hid (fun k wz => shifted0_any none 0 0 k wz (NatIs.zero wz))
  unfold NatTold2 at SH
  obtain ⟨K, hK⟩ : ∃ K, K = 2000 := ⟨_, rfl⟩
  have hN : numOf s.data.toList < 4294967296 ^ K := by
   obtain ⟨g1, g2, g3⟩ := okB_digs hok
   have h1 := numOf_lt _ g3
   have h2 : s.data.toList.length = s.size := rfl
   exact Nat.lt_of_lt_of_le h1 (Nat.le_trans (Nat.pow_le_pow_right (by omega) (show s.data.toList.length <= K by omega)) (Nat.pow_le_pow_left (by omega) K))
  have AD : Hid (∀ a n c b k l wz, NatIs wz (.agg #[.slice a n c]) 0 -> NatIs wz (.agg #[.slice b k l]) (numOf s.data.toList) -> Calls Tryz.prog 145 #[.agg #[.slice a n c], .agg #[.slice b k l]] wz fun e w' => NatTold wz w' e (numOf s.data.toList)) := fun a n c b k l wz h g => by
   have := (add_any _ _ 0 (numOf s.data.toList) wz h g K (by omega) (Nat.pow_pos (by omega)) hN).mono fun _ _ h => h.told
   rw [Nat.zero_add] at this
   exact this
  clear hv hb2 hN B0
  go_wp2_with fail
  have BB := Lib.hid BB.out.drew
  go_region_held3 (fun y => y.cell? ⟨w.heap.size + 1, 0, none⟩ = some (.slice none 0 0) /\ y.cell? ⟨w2.heap.size, 0, none⟩ = some (.slice a n c))
   (first
     | (exact ⟨z0.cell, z1.cell⟩)
     | (exact ⟨BB.out.now.2.2.1.cell, BB.out.now.1.cell⟩))
   (first
     | (go_at_call 144; (with_reducible refine (SH.out _ _).mono ?_); rintro e w3 ⟨rfl, hn3, hb3⟩; have BB := Lib.hid (BB.out.go hb3))
     | (go_at_call 145; (with_reducible refine (AD.out _ _ _ _ _ _ _ hn3 BB.out.now.2.1).mono ?_); rintro e w4 ⟨a5, n5, c5, rfl, hn5, hb4⟩; have BB := Lib.hid (BB.out.go hb4); have hs4 := BB.out.now.2.2.2.1; have hc := hs4.cell; have hf := hs4.free; have z0 := BB.out.now.2.2.1.seto he.1 (.slice a5 n5 c5); have z1 := BB.out.now.1.seto he.2 (.slice a5 n5 c5); have HS := World.cell?_setCell_same w4 ⟨w.heap.size, 0, none⟩ (.slice a5 n5 c5) hc; have HE : Hid (SubOf3 w (w4.setCell ⟨w.heap.size, 0, none⟩ (.slice a5 n5 c5)) (.returned (.tuple #[.agg #[.slice a5 n5 c5], .bool true])) (numOf s.data.toList) true) := ⟨a5, n5, c5, rfl, hn5.storeAt hc (fun _ _ h => by cases h) _, BB.out.below.setCell (p := ⟨w.heap.size, 0, none⟩) (Nat.le_refl _) _⟩))
  go_wp2
  exact bodyPost_ret (v := .tuple #[.agg #[.slice a5 n5 c5], .bool true]) (by simp [results, Tryz.results101, go_sem, HS]) rfl HE.out
theorem ratRead_no (s : ByteArray) (w : World) (hs : s.size <= 2000) (hok : okB s.data.toList = false) :
    Calls Tryz.prog 101 #[.string s] w fun e w' => SubOf3 w w' e 0 false := by
 have B0 := (Bag.start w).box (.slice none 0 0) 49 |>.box (.slice none 0 0) 49
 simp only [World.size_alloc] at B0
 have PA := Lib.hid (fun wz => parse_any s wz (by unfold maxLen; omega))
 unfold ParseOut at PA
 rw [hok] at PA
 have BB := Lib.hid B0
 go_enter Tryz.func101, Tryz.ntmps101
 go_wp2
 have hsz : ¬ ((s.size : Int) > 2000) := by omega
 go_loopw [0] (fun i wr => i = .string s /\ wr = ((w.alloc (.cells #[.slice none 0 0] 49)).alloc (.cells #[.slice none 0 0] 49))) (fun _ _ => 0)
 case atStart => exact ⟨rfl, rfl⟩
 case round =>
  obtain ⟨rfl, rfl⟩ := hrel
  go_wp2_with fail
  go_at_call 143
  (with_reducible refine (PA.out _).mono ?_)
  rintro e w2 ⟨a, n, c, rfl, hv, _, hb2⟩
  have BB := Lib.hid ((BB.out.go hb2).box (.slice a n c) 49)
  have hs4 := BB.out.now.2.2.1
  have hc := hs4.cell
  have hf := hs4.free
  have HS := World.cell?_setCell_same _ ⟨w.heap.size, 0, none⟩ (.slice none 0 0) hc
  have HE := Lib.hid (show SubOf3 w _ (.returned (.tuple #[.agg #[.slice none 0 0], .bool false])) 0 false from ⟨none, 0, 0, rfl, NatIs.zero _, BB.out.below.setCell (p := ⟨w.heap.size, 0, none⟩) (Nat.le_refl _) (.slice none 0 0)⟩)
  clear hv hb2 B0 hs4
  go_wp2
  exact bodyPost_ret (v := .tuple #[.agg #[.slice none 0 0], .bool false]) (by simp [results, Tryz.results101, go_sem, HS]) rfl HE.out
end Go.Proofs.YtpdcdebnkbnogaaGreatDoor
namespace Go.Proofs.YtpdcdebnkbnogaaGreatDoor
open Go Go.RowKit
section
variable {P : Program} {md : Region.Mode} {ops : Array Oper} {Q : Exit -> Act -> World -> Prop} {L : Plan} {p : Nat -> List (Option Value) -> World -> Prop} {B : World -> Prop} {a0 : Act}
end
theorem wanted_pos {ops : Array Oper} {a : Act} {o : Oper} {g : Nat} {b : Bool} {d : Nat} (hg : o.guard = some (g, b)) (hd : dstI ops g = some d) (ht : a.tmps[d]? = some (.bool b)) : Region.wanted o (yielded ops a.tmps) = true := by
 unfold Region.wanted
 rw [hg]
 show (yielded ops a.tmps g == some b) = true
 unfold yielded
 rw [show (ops[g]?).bind (·.dst) = some d from hd]
 show ((match a.tmps[d]? with | some (.bool b) => some b | _ => none) == some b) = true
 rw [ht]
 cases b <;> rfl
theorem wanted_neg {ops : Array Oper} {a : Act} {o : Oper} {g : Nat} {b : Bool} {d : Nat} {v : Value} (hg : o.guard = some (g, b)) (hd : dstI ops g = some d) (ht : a.tmps[d]? = some v) (hv : v ≠ .bool b) : Region.wanted o (yielded ops a.tmps) = false := by
 unfold Region.wanted
 rw [hg]
 show (yielded ops a.tmps g == some b) = false
 unfold yielded
 rw [show (ops[g]?).bind (·.dst) = some d from hd]
 show ((match a.tmps[d]? with | some (.bool b) => some b | _ => none) == some b) = false
 rw [ht]
 cases v with
 | bool x => cases x <;> cases b <;> first | rfl | exact absurd rfl hv
 | _ => rfl
section
variable {P : Program} {md : Region.Mode} {ops : Array Oper} {Q : Exit -> Act -> World -> Prop} {L : Plan} {p : Nat -> List (Option Value) -> World -> Prop} {B : World -> Prop} {a0 : Act}
theorem wpAny_inv2 (ok : L.ok md ops a0.tmps.size = true) (hal : L.al.all (fun i => (dstI ops i).isSome) = true) (stay : ∀ j v w w', Below w.heap.size w w' -> p j v w -> p j v w') (steps : Stps2 P ops Q L p B a0 0 ops.toList)
    (done : ∀ a w, a.tmps.size = a0.tmps.size -> a.defers = a0.defers -> (∀ t, stays ops t = true -> a.tmps[t]? = a0.tmps[t]?) -> B w -> (∀ j, j < ops.size -> p j (vw a (L.D j)) w) -> Q .normal a w) :
    ∀ (fuel : Nat) (listed : Array Bool) (a : Act) (w : World), Inv2 md ops L p B a0 listed a w -> (List.range ops.size).countP (fun i => !listed.getD i true) <= fuel -> wpAny P md ops Q fuel listed a w := by
 intro fuel
 induction fuel with
 | zero =>
  intro listed a w I hc
  have hall : ∀ j, j < ops.size -> listed.getD j true = true := by
   intro j hj
   have := List.countP_eq_zero.1 (Nat.le_zero.1 hc) j (List.mem_range.2 hj)
   simpa using this
  have hr : Region.ready md ops listed = [] := by
   rw [List.eq_nil_iff_forall_not_mem]
   intro j hj
   obtain ⟨h1, o, h2, _⟩ := mem_ready.1 hj
   rw [hall j (Array.getElem?_eq_some_iff.1 h2).1] at h1; cases h1
  exact ⟨hr, done a w I.asz I.dfs I.old I.bag (fun j hj => I.fct j (ready_all ok I.lsz hr j hj))⟩
 | succ fuel ih =>
  intro listed a w I hc
  refine ⟨fun hr => done a w I.asz I.dfs I.old I.bag (fun j hj => I.fct j (ready_all ok I.lsz hr j hj)), fun i hi => ?_⟩
  obtain ⟨hu, o, ho, hr⟩ := mem_ready.1 hi
  have hio : i < ops.size := (Array.getElem?_eq_some_iff.1 ho).1
  have hst := steps.get i o (by rw [Array.getElem?_toList]; exact ho)
  rw [Nat.zero_add] at hst
  have hpre : ∀ e ∈ L.pre i, listed.getD e false = true := by
   intro e he
   rcases (Plan.ok_spec ok hio).2.1 e he with h | ⟨k, hk, hek⟩
   · obtain ⟨x, h1, h2, rfl⟩ := (aft_mem ho).1 h; exact hr x h1 h2
   · obtain ⟨x, h1, h2, rfl⟩ := (aft_mem ho).1 hk; exact I.clo _ (hr x h1 h2) e hek
  refine wpOp_step ho (fun K hK => hst a w I.asz I.old I.bag (fun j hj => I.fct j (hpre j hj)) K (fun v w' G => hK _ _ (ih _ _ _ (I.step ok hal stay ho hu hr G) ?_)))
  have hil : i < listed.size := by rw [I.lsz]; exact hio
  have hun : listed[i] = false := by simpa [hil] using hu
  have := cnt_set (fun j => !listed.getD j true) (fun j => !(listed.setIfInBounds i true).getD j true) i (by simp [hil, hun]) (by simp [hil]) (fun j hj => by simp [Ne.symm hj]) ops.size
  rw [if_pos hio] at this
  omega
theorem wp_region_inv2 {id : Nat} {l : List Oper} {w : World} (L : Plan) (p : Nat -> List (Option Value) -> World -> Prop) (B : World -> Prop) (hm : P.follows .mixedOrders = true) (ok : L.ok .any l.toArray a0.tmps.size = true) (hal : L.al.all (fun i => (dstI l.toArray i).isSome) = true)
    (hB : B w.drew) (stay : ∀ j v w w', Below w.heap.size w w' -> p j v w -> p j v w')
    (done : ∀ a w, a.tmps.size = a0.tmps.size -> a.defers = a0.defers -> (∀ t, stays l.toArray t = true -> a.tmps[t]? = a0.tmps[t]?) -> B w -> (∀ j, j < l.length -> p j (vw a (L.D j)) w) -> Q .normal a w)
    (steps : Stps2 P l.toArray Q L p B a0 0 l) :
    (Code.region id l.toArray true).wp P Q a0 w := by
 refine wp_region_any hm (wpAny_inv2 ok hal stay steps (fun a w h1 h2 h3 h4 h5 => done a w h1 h2 h3 h4 (fun j hj => h5 j (by simpa using hj))) _ _ _ _ ⟨by simp, rfl, rfl, fun _ _ => rfl, hB, ?_, ?_, ?_, ?_⟩ ?_)
 · intro j hj; rw [lg0] at hj; cases hj
 · intro j hj; rw [lg0] at hj; cases hj
 · intro j _ hj; rw [lg0] at hj; cases hj
 · intro j _ i _ _ hj; rw [lg0] at hj; cases hj
 · exact Nat.le_trans List.countP_le_length (by simp)
end
section
variable {P : Program} {md : Region.Mode} {ops : Array Oper} {Q : Exit -> Act -> World -> Prop} {L : Plan} {p : Nat -> List (Option Value) -> World -> Prop} {B : World -> Prop} {a0 : Act}
end
section
variable {P : Program} {md : Region.Mode} {ops : Array Oper} {Q : Exit -> Act -> World -> Prop} {L : Plan} {p : Nat -> List (Option Value) -> World -> Prop} {B : (Nat -> Bool) -> World -> Prop} {a0 : Act}
end
end Go.Proofs.YtpdcdebnkbnogaaGreatDoor
namespace Go.Proofs.YtpdcdebnkbnogaaGreatDoor
open Go.RowKit
def eus (A B : Nat) : Nat := if h : B = 0 then 0 else eus B (A % B) + 1
termination_by B
decreasing_by exact Nat.mod_lt _ (Nat.pos_of_ne_zero h)
theorem eus_zero (A : Nat) : eus A 0 = 0 := by unfold eus; rw [dif_pos rfl]
theorem eus_step (A : Nat) {B : Nat} (h : B ≠ 0) : eus A B = eus B (A % B) + 1 := by rw [eus, dif_neg h]
theorem eus_le : ∀ k A B, B < 2 ^ k -> eus A B <= 2 * k + 1 := by
 intro k
 induction k with
 | zero =>
  intro A B h
  obtain rfl : B = 0 := by simpa using h
  rw [eus_zero]; omega
 | succ k ih =>
  intro A B h
  by_cases h0 : B = 0
  · subst h0; rw [eus_zero]; omega
  · rw [eus_step A h0]
    have h1 := Nat.mod_lt A (Nat.pos_of_ne_zero h0)
    obtain ⟨C, hC⟩ : ∃ C, A % B = C := ⟨_, rfl⟩
    rw [hC] at h1 ⊢
    by_cases hc0 : C = 0
    · subst hc0; rw [eus_zero]; omega
    · rw [eus_step B hc0]
      have h2 := Nat.mod_lt B (Nat.pos_of_ne_zero hc0)
      have h3 := Nat.div_add_mod B C
      have h4 : 1 <= B / C := Nat.div_pos (by omega) (Nat.pos_of_ne_zero hc0)
      have h5 : C * 1 <= C * (B / C) := Nat.mul_le_mul_left _ h4
      have h6 : B % C < 2 ^ k := by rw [Nat.pow_succ] at h; omega
      have := ih C (B % C) h6
      omega
theorem gcd_step (A B : Nat) : Nat.gcd B (A % B) = Nat.gcd A B := by
 rw [Nat.gcd_comm A B, Nat.gcd_rec B A, Nat.gcd_comm]
theorem dec_isnt0 (N : Nat) : ((str (dec N)).toList == [48]) = decide (N = 0) := by
 have e : (str (dec N)).toList = dec N := by rw [ByteArray.toList_eq]; rfl
 rw [e, Bool.eq_iff_iff, beq_iff_eq, decide_eq_true_eq]
 constructor
 · intro h
   have := congrArg numOf h
   unfold dec at this
   rw [numOf_sdig, Nat.mod_eq_of_lt (dl_lt N)] at this
   simpa [numOf] using this
 · intro h; rw [h, dec_zero]
theorem dl_mod {A B : Nat} (h : 0 < B) : dl (A % B) <= dl B := dl_le _ _ (dl_pos B) (Nat.lt_trans (Nat.mod_lt _ h) (dl_lt B))
theorem rgcd_any (x y : Nat) (w : World) (hx : dl x <= 900) (hy : dl y <= 900) (k0 : Nat) (hk0 : k0 <= 4000) (hy2 : y < 2 ^ k0) :
    Calls Tryz.prog 100 #[.string (str (dec x)), .string (str (dec y))] w fun e w' => e = .returned (.string (str (dec (Nat.gcd x y)))) /\ Below w.heap.size w w' := by
 have hst : 0 + eus x y <= 10000 := by have := eus_le k0 x y hy2; omega
 obtain ⟨a0, ha0⟩ : ∃ a0, str (dec x) = a0 := ⟨_, rfl⟩
 obtain ⟨b0, hb0⟩ : ∃ b0, str (dec y) = b0 := ⟨_, rfl⟩
 rw [ha0, hb0]
 have H0 : Hid (a0 = str (dec x) /\ b0 = str (dec y) /\ dl x <= 900 /\ dl y <= 900 /\ 0 + eus x y <= 10000) := ⟨ha0.symm, hb0.symm, hx, hy, hst⟩
 clear hst ha0 hb0 hx hy hy2 hk0
 go_enter Tryz.func100, Tryz.ntmps100
 go_wp2
 go_loopw [0, 1, 5] (fun a b i wr => ∃ (k A B : Nat) (s t : ByteArray), a = .string s /\ b = .string t /\ i = .int .i64 k /\ k <= 10000 /\ Hid (s = str (dec A) /\ t = str (dec B) /\ dl A <= 900 /\ dl B <= 900 /\ k + eus A B <= 10000 /\ Nat.gcd A B = Nat.gcd x y) /\ Below w.heap.size w wr)
  (fun _ _ i _ => 20000 - (intOf i).toNat)
 case atStart => exact ⟨0, x, y, _, _, rfl, rfl, rfl, by omega, ⟨H0.out.1, H0.out.2.1, H0.out.2.2.1, H0.out.2.2.2.1, H0.out.2.2.2.2, rfl⟩, Below.refl _ _⟩
 case round =>
  obtain ⟨k, A, B, s, t, rfl, rfl, rfl, hk, hr, hbl⟩ := hrel
  have hz := dec_isnt0 B
  rw [← hr.out.2.1] at hz
  have d1 : decide ((k : Int) < 20000) = true := decide_eq_true (by omega)
  by_cases h0 : B = 0
  · rw [decide_eq_true h0] at hz
    have HE : Hid (s = str (dec (Nat.gcd x y))) := by
     show _ = _
     rw [hr.out.1, ← hr.out.2.2.2.2.2, h0, Nat.gcd_zero_right]
    have HBL := Lib.hid hbl
    clear hr hbl h0
    go_wp2
    go_ret
    exact ⟨ret_str HE.out, HBL.out⟩
  · rw [decide_eq_false h0] at hz
    have hB0 : 0 < B := Nat.pos_of_ne_zero h0
    have DM := fun wz => rdivMod_any A B wz hr.out.2.2.1 hr.out.2.2.2.1 hB0
    rw [← hr.out.1, ← hr.out.2.1] at DM
    obtain ⟨u, hu⟩ : ∃ u, str (dec (A / B)) = u := ⟨_, rfl⟩
    obtain ⟨v, hv⟩ : ∃ v, str (dec (A % B)) = v := ⟨_, rfl⟩
    rw [hu, hv] at DM
    have hes := eus_step A h0
    have hkk : k + 1 <= 10000 := by have := hr.out.2.2.2.2.1; omega
    have HN : Hid (t = str (dec B) /\ v = str (dec (A % B)) /\ dl B <= 900 /\ dl (A % B) <= 900 /\ (k + 1) + eus B (A % B) <= 10000 /\ Nat.gcd B (A % B) = Nat.gcd x y) :=
     ⟨hr.out.2.1, hv.symm, hr.out.2.2.2.1, Nat.le_trans (dl_mod hB0) hr.out.2.2.2.1, by have := hr.out.2.2.2.2.1; omega, by rw [gcd_step]; exact hr.out.2.2.2.2.2⟩
    have HD := Lib.hid DM
    have HBL := Lib.hid hbl
    clear DM hu hv hes hr hbl h0 hB0
    go_wp2_with fail
    go_at_call 142
    (with_reducible refine (HD.out _).mono ?_)
    rintro e w2 ⟨rfl, hb2⟩
    have HB2 := Lib.hid (HBL.out.trans (hb2.mono HBL.out.size))
    clear hb2
    go_wp2
    go_roundw
    case rel => exact ⟨k + 1, B, A % B, _, _, rfl, rfl, by go_num, hkk, HN.out, HB2.out⟩
    case measure => simp [intOf]; omega
end Go.Proofs.YtpdcdebnkbnogaaGreatDoor
namespace Go.Proofs.YtpdcdebnkbnogaaGreatDoor
open Go.RowKit
attribute [local go_sem ↓] Go.wp_at_zero Go.wp_at_succ
theorem dec_is1 (N : Nat) : ((str (dec N)).toList == [49]) = decide (N = 1) := dec_eq_digit N 1 (by omega)
def ofK (s t : ByteArray) : Bool := okB s.data.toList && okB t.data.toList && !decide (numOf t.data.toList = 0)
def ofP (b : Bool) (s t : ByteArray) : Int := loP (sgn b (numOf s.data.toList)) (numOf t.data.toList)
def ofQ (b : Bool) (s t : ByteArray) : Nat := loQ (sgn b (numOf s.data.toList)) (numOf t.data.toList)
theorem of_some (b : Bool) (s t : ByteArray) (w : World) (hs : s.size <= 60) (ht : t.size <= 60) (hk : ofK s t = true) (x : Bool) (hx : x = decide (rB (ofP b s t) = b /\ rS (ofP b s t) = s /\ str (dec (ofQ b s t)) = t)) :
    Calls Tryz.prog 53 #[.agg #[.bool b, .string s, .string t]] w fun e w' => RatTold3 w w' e (if x then ofP b s t else 0) (if x then ofQ b s t else 1) x := by
 have B0 := (Bag.start w).box3 (.bool b) (.string s) (.string t) 46 |>.box3 (.slice none 0 0) (.bool false) (.slice none 0 0) 53
 simp only [World.size_alloc] at B0
 unfold ofK at hk
 rw [Bool.and_eq_true, Bool.and_eq_true] at hk
 obtain ⟨⟨hk1, hk2⟩, hk3⟩ := hk
 have hM : 0 < numOf t.data.toList := by
  rw [Bool.not_eq_true', decide_eq_false_iff_not] at hk3; omega
 have RS1 := Lib.hid (fun wz => ratRead_yes s wz (by omega) hk1)
 have RS2 := Lib.hid (fun wz => ratRead_yes t wz (by omega) hk2)
 unfold SubOf3 at RS1 RS2
 have hsz : ∀ u : ByteArray, u.size <= 60 -> okB u.data.toList = true -> numOf u.data.toList < 10 ^ 60 := fun u hu hok => by
  obtain ⟨g1, g2, g3⟩ := okB_digs hok
  have h2 : u.data.toList.length = u.size := rfl
  exact Nat.lt_of_lt_of_le (numOf_lt _ g3) (Nat.pow_le_pow_right (by omega) (by omega))
 have hN1 := hsz s hs hk1
 have hM1 := hsz t ht hk2
 have h10 : (10 : Nat) ^ 60 < 4294967296 ^ 7 := by decide
 have ZE := Lib.hid (fun a n c wz (h : NatIs wz (.agg #[.slice a n c]) (numOf t.data.toList)) => zero_any _ _ wz h)
 rw [decide_eq_false (show ¬ numOf t.data.toList = 0 by omega)] at ZE
 have OF := Lib.hid (fun a n c wz (h : NatIs wz (.agg #[.slice a n c]) (numOf s.data.toList)) => wof_any b a n c _ wz h)
 have LW := Lib.hid (fun a n c m a2 n2 c2 wz (h : IntAt wz a n c m (sgn b (numOf s.data.toList))) (g : NatIs wz (.agg #[.slice a2 n2 c2]) (numOf t.data.toList)) => lowest_any a n c m _ a2 n2 c2 _ wz h g hM 7 (by omega) (by rw [sgn_abs]; omega) (by omega))
 rw [show loP (sgn b (numOf s.data.toList)) (numOf t.data.toList) = ofP b s t from rfl, show loQ (sgn b (numOf s.data.toList)) (numOf t.data.toList) = ofQ b s t from rfl] at LW
 have hQ0 : 0 < ofQ b s t := loQ_pos _ hM
 have hP7 : (ofP b s t).natAbs < 4294967296 ^ 7 := Nat.lt_of_le_of_lt (loP_absle _ _) (by rw [sgn_abs]; omega)
 have hQ7 : ofQ b s t < 4294967296 ^ 7 := Nat.lt_of_le_of_lt (loQ_le _ _) (by omega)
 have NM := Lib.hid (fun a n c m a2 n2 c2 wz hz => num_any a n c m a2 n2 c2 (ofP b s t) (ofQ b s t) wz hz hQ0 7 (by omega) hP7 hQ7)
 unfold NumTold at NM
 generalize ofP b s t = P at *
 generalize ofQ b s t = Q at *
 obtain ⟨pb, hpb⟩ : ∃ pb, rB P = pb := ⟨_, rfl⟩
 obtain ⟨ps, hps⟩ : ∃ ps, rS P = ps := ⟨_, rfl⟩
 obtain ⟨pt, hpt⟩ : ∃ pt, str (dec Q) = pt := ⟨_, rfl⟩
 rw [hpb, hps, hpt] at NM hx
 obtain ⟨v1, hv1⟩ : ∃ v, (pb == b) = v := ⟨_, rfl⟩
 obtain ⟨v2, hv2⟩ : ∃ v, (ps.toList == s.toList) = v := ⟨_, rfl⟩
 obtain ⟨v3, hv3⟩ : ∃ v, (pt.toList == t.toList) = v := ⟨_, rfl⟩
 have hbl : ∀ u v : ByteArray, u.toList = v.toList ↔ u = v := fun u v => ⟨fun h => by rw [ByteArray.toList_eq, ByteArray.toList_eq] at h; exact ByteArray.ext (Array.toList_inj.1 h), fun h => by rw [h]⟩
 have hx2 : x = (v1 && (v2 && v3)) := by
  rw [hx, Bool.eq_iff_iff, decide_eq_true_eq, Bool.and_eq_true, Bool.and_eq_true, ← hv1, ← hv2, ← hv3, beq_iff_eq, beq_iff_eq, beq_iff_eq, hbl, hbl]
 subst hx2
 clear hx hpb hps hpt hbl
 have BB := Lib.hid B0
 have q0 := B0.now.2.1.cell
 have q1 := B0.now.2.1.cell1
 have q2 := B0.now.2.1.cell2
 clear B0 hs ht hk1 hk2 hk3 hM hsz hN1 hM1 h10 hQ0 hP7 hQ7
 go_enter Tryz.func53, Tryz.ntmps53
 go_wp2_with (first
  | (go_at_call 101; (with_reducible refine (RS1.out _).mono ?_); rintro e w2 ⟨a3, n3, c3, rfl, hn3, hb2⟩; have hk2 := (BB.out.go hb2).now.1.lt; have BB := Lib.hid (((BB.out.go hb2).nat hn3).box (.slice a3 n3 c3) 49); clear hb2 hn3; have q0 := BB.out.now.2.2.2.1.cell; have q1 := BB.out.now.2.2.2.1.cell1; have q2 := BB.out.now.2.2.2.1.cell2)
  | (go_at_call 101; (with_reducible refine (RS2.out _).mono ?_); rintro e w3 ⟨a4, n4, c4, rfl, hn4, hb3⟩; have hk3 := (BB.out.go hb3).now.1.lt; have BB := Lib.hid (((BB.out.go hb3).nat hn4).box (.slice a4 n4 c4) 49); clear hb3 hn4; have q3 := BB.out.now.1.cell)
  | (go_at_call 102; (with_reducible refine (ZE.out _ _ _ _ BB.out.now.2.1).mono ?_); rintro e w4 ⟨rfl, hb4⟩; have BB := Lib.hid (BB.out.go hb4); clear hb4; have q0 := BB.out.now.2.2.2.2.2.1.cell; have q1 := BB.out.now.2.2.2.2.2.1.cell1; have q2 := BB.out.now.2.2.2.2.2.1.cell2; have q3 := BB.out.now.1.cell; have q4 := BB.out.now.2.2.1.cell))
 have HP : Hid (∀ (y : World) (k : Nat), Slot3 y k (.slice none 0 0) (.bool false) (.slice none 0 0) -> w3.heap.size < k -> Bag w (fun y => Slot y w3.heap.size (.slice a4 n4 c4) /\ NatIs y (.agg #[.slice a4 n4 c4]) (numOf t.data.toList) /\ Slot y w2.heap.size (.slice a3 n3 c3) /\ NatIs y (.agg #[.slice a3 n3 c3]) (numOf s.data.toList) /\ Slot3 y (w.heap.size + 1) (.slice none 0 0) (.bool false) (.slice none 0 0) /\ Slot3 y w.heap.size (.bool b) (.string s) (.string t) /\ True) y -> ∀ (a9 : Option Addr) (n9 c9 : Nat) (m9 : Bool) (a10 : Option Addr) (n10 c10 : Nat), Bag w (fun y => Slot y w3.heap.size (.slice a4 n4 c4) /\ NatIs y (.agg #[.slice a4 n4 c4]) (numOf t.data.toList) /\ Slot y w2.heap.size (.slice a3 n3 c3) /\ NatIs y (.agg #[.slice a3 n3 c3]) (numOf s.data.toList) /\ Slot3 y (w.heap.size + 1) (.slice none 0 0) (.bool false) (.slice none 0 0) /\ Slot3 y w.heap.size (.bool b) (.string s) (.string t) /\ True) (((y.setCell ⟨k, 0, none⟩ (.slice a9 n9 c9)).setCell ⟨k, 1, none⟩ (.bool m9)).setCell ⟨k, 2, none⟩ (.slice a10 n10 c10))) := by
  intro y k s hk B a9 n9 c9 m9 a10 n10 c10
  have hx : ∀ (x : Option Addr) (y z : Nat) (ki : IntKind) (i : Int), (Value.slice x y z) ≠ .int ki i := fun _ _ _ _ _ h => by cases h
  have hb : ∀ (x : Bool) (ki : IntKind) (i : Int), (Value.bool x) ≠ .int ki i := fun _ _ _ h => by cases h
  have q := B.now
  exact ⟨((B.below.setCell (p := ⟨k, 0, none⟩) (show w.heap.size <= k by omega) _).setCell (p := ⟨k, 1, none⟩) (show w.heap.size <= k by omega) _).setCell (p := ⟨k, 2, none⟩) (show w.heap.size <= k by omega) _, B.stay, q.1.set3o (by omega) _ _ _, q.2.1.set3 s (hx _ _ _) (hb _) (hx _ _ _) _ _ _, q.2.2.1.set3o (by omega) _ _ _, q.2.2.2.1.set3 s (hx _ _ _) (hb _) (hx _ _ _) _ _ _, q.2.2.2.2.1.set3o (by omega) _ _ _, q.2.2.2.2.2.1.set3o (by omega) _ _ _, trivial⟩
 have HC : Hid (∀ y, (fun y => Slot y w3.heap.size (.slice a4 n4 c4) /\ NatIs y (.agg #[.slice a4 n4 c4]) (numOf t.data.toList) /\ Slot y w2.heap.size (.slice a3 n3 c3) /\ NatIs y (.agg #[.slice a3 n3 c3]) (numOf s.data.toList) /\ Slot3 y (w.heap.size + 1) (.slice none 0 0) (.bool false) (.slice none 0 0) /\ Slot3 y w.heap.size (.bool b) (.string s) (.string t) /\ True) y -> ((y.cell? ⟨w.heap.size, 0, none⟩ = some (.bool b) /\ y.cell? ⟨w.heap.size, 1, none⟩ = some (.string s) /\ y.cell? ⟨w.heap.size, 2, none⟩ = some (.string t)) /\ y.cell? ⟨w2.heap.size, 0, none⟩ = some (.slice a3 n3 c3) /\ y.cell? ⟨w3.heap.size, 0, none⟩ = some (.slice a4 n4 c4))) := fun y h => ⟨⟨h.2.2.2.2.2.1.cell, h.2.2.2.2.2.1.cell1, h.2.2.2.2.2.1.cell2⟩, h.2.2.1.cell, h.1.cell⟩
 refine wp_capture (fun R hR => ?_)
 have TL : ∀ (k8 : Nat) (a5 : Option Addr) (n5 c5 : Nat) (m5 : Bool) (a6 : Option Addr) (n6 c6 : Nat) (m6 : Bool) (a7 : Option Addr) (n7 c7 : Nat) (wy : World), Bag w (fun y => Slot y w3.heap.size (.slice a4 n4 c4) /\ NatIs y (.agg #[.slice a4 n4 c4]) (numOf t.data.toList) /\ Slot y w2.heap.size (.slice a3 n3 c3) /\ NatIs y (.agg #[.slice a3 n3 c3]) (numOf s.data.toList) /\ Slot3 y (w.heap.size + 1) (.slice none 0 0) (.bool false) (.slice none 0 0) /\ Slot3 y w.heap.size (.bool b) (.string s) (.string t) /\ True) wy -> Slot3 wy k8 (.slice a6 n6 c6) (.bool m6) (.slice a7 n7 c7) -> RatAt wy a6 n6 c6 m6 a7 n7 c7 P Q -> R .normal { tmps := #[Value.agg #[Value.bool b, Value.string s, Value.string t], Value.pointer (some { block := w.heap.size, off := 0 }), Value.pointer (some { block := w.heap.size + 1, off := 0 }), Value.bool false, Value.pointer (some { block := w2.heap.size, off := 0 }), Value.bool true, Value.pointer (some { block := w3.heap.size, off := 0 }), Value.bool true, Value.pointer (some { block := k8, off := 0 }), Value.tuple #[Value.agg #[Value.slice a3 n3 c3], Value.bool true], Value.pointer (some { block := w.heap.size, off := 1 }), Value.string s, Value.tuple #[Value.agg #[Value.slice a3 n3 c3], Value.bool true], Value.agg #[Value.slice a3 n3 c3], Value.bool true, Value.tuple #[Value.agg #[Value.slice a4 n4 c4], Value.bool true], Value.pointer (some { block := w.heap.size, off := 2 }), Value.string t, Value.tuple #[Value.agg #[Value.slice a4 n4 c4], Value.bool true], Value.agg #[Value.slice a4 n4 c4], Value.bool true, Value.bool true, Value.bool false, Value.bool false, Value.bool true, Value.bool false, Value.bool false, Value.bool false, Value.agg #[Value.slice a4 n4 c4], Value.bool false, Value.bool false, undef, Value.pointer (some { block := w.heap.size, off := 0 }), Value.bool b, Value.agg #[Value.slice a3 n3 c3], Value.agg #[Value.slice a5 n5 c5, Value.bool m5], Value.agg #[Value.slice a4 n4 c4], Value.agg #[Value.slice a6 n6 c6, Value.bool m6, Value.slice a7 n7 c7], undef, undef, undef, undef, undef, undef], defers := [] } wy := by
  intro k8 a5 n5 c5 m5 a6 n6 c6 m6 a7 n7 c7 wy B1 sA hr5
  rw [hR]
  have BB := Lib.hid ((B1.slot3 sA).rat hr5)
  have q0 := BB.out.now.2.1.cell
  have q1 := BB.out.now.2.1.cell1
  have q2 := BB.out.now.2.1.cell2
  clear B1 sA hr5
  have BB := Lib.hid BB.out.drew
  cases v1 <;> cases v2 <;> cases v3
  all_goals
   go_wp2_with fail
   go_region_held3 (fun y => (y.cell? ⟨k8, 0, none⟩ = some (.slice a6 n6 c6) /\ y.cell? ⟨k8, 1, none⟩ = some (.bool m6) /\ y.cell? ⟨k8, 2, none⟩ = some (.slice a7 n7 c7)) /\ y.cell? ⟨w.heap.size, 0, none⟩ = some (.bool b) /\ y.cell? ⟨w.heap.size, 1, none⟩ = some (.string s) /\ y.cell? ⟨w.heap.size, 2, none⟩ = some (.string t))
    (exact ⟨⟨BB.out.now.2.1.cell, BB.out.now.2.1.cell1, BB.out.now.2.1.cell2⟩, BB.out.now.2.2.2.2.2.2.2.1.cell, BB.out.now.2.2.2.2.2.2.2.1.cell1, BB.out.now.2.2.2.2.2.2.2.1.cell2⟩)
    (first
      | (go_at_call 21; (with_reducible refine (NM.out _ _ _ _ _ _ _ _ BB.out.now.1).mono ?_); rintro e w9 ⟨rfl, hb9⟩; have BB := Lib.hid (BB.out.go hb9)))
  all_goals
   have q0 := BB.out.now.2.1.cell
   have q1 := BB.out.now.2.1.cell1
   have q2 := BB.out.now.2.1.cell2
   have hs9 := BB.out.now.2.2.2.2.2.2.1
   have u0 := hs9.cell
   have u1 := hs9.cell1
   have u2 := hs9.cell2
   have g0 := hs9.free
   have g1 := hs9.free1
   have g2 := hs9.free2
   first
    | (have HS := hs9.set (.slice a6 n6 c6) (.bool m6) (.slice a7 n7 c7)
       have HE := Lib.hid (RatTold3.done true BB.out.below (show w.heap.size <= w.heap.size + 1 by omega) hs9 BB.out.now.1)
       go_wp2
       exact bodyPost_ret (v := .tuple #[.agg #[.slice a6 n6 c6, .bool m6, .slice a7 n7 c7], .bool true]) (by simp [results, Tryz.results53, go_sem, HS]) rfl HE.out)
    | (have HS := hs9.set (.slice none 0 0) (.bool false) (.slice none 0 0)
       have HE := Lib.hid (RatTold3.done false BB.out.below (show w.heap.size <= w.heap.size + 1 by omega) hs9 (RatAt.zero _))
       go_wp2
       exact bodyPost_ret (v := .tuple #[.agg #[.slice none 0 0, .bool false, .slice none 0 0], .bool false]) (by simp [results, Tryz.results53, go_sem, HS]) rfl HE.out)
 refine wp_region_noPanic ?_
 refine wp_region_held_drew (S := (fun y => ((y.cell? ⟨w.heap.size, 0, none⟩ = some (.bool b) /\ y.cell? ⟨w.heap.size, 1, none⟩ = some (.string s) /\ y.cell? ⟨w.heap.size, 2, none⟩ = some (.string t)) /\ y.cell? ⟨w2.heap.size, 0, none⟩ = some (.slice a3 n3 c3) /\ y.cell? ⟨w3.heap.size, 0, none⟩ = some (.slice a4 n4 c4)) /\ Bag w (fun y => Slot y w3.heap.size (.slice a4 n4 c4) /\ NatIs y (.agg #[.slice a4 n4 c4]) (numOf t.data.toList) /\ Slot y w2.heap.size (.slice a3 n3 c3) /\ NatIs y (.agg #[.slice a3 n3 c3]) (numOf s.data.toList) /\ Slot3 y (w.heap.size + 1) (.slice none 0 0) (.bool false) (.slice none 0 0) /\ Slot3 y w.heap.size (.bool b) (.string s) (.string t) /\ True) y)) (by kernel_rfl) ?_ (fun _ => ?_)
 · exact (have B9 := BB.out.drew; ⟨HC.out _ B9.now, B9⟩)
 have hH : ((w4.drew.cell? ⟨w.heap.size, 0, none⟩ = some (.bool b) /\ w4.drew.cell? ⟨w.heap.size, 1, none⟩ = some (.string s) /\ w4.drew.cell? ⟨w.heap.size, 2, none⟩ = some (.string t)) /\ w4.drew.cell? ⟨w2.heap.size, 0, none⟩ = some (.slice a3 n3 c3) /\ w4.drew.cell? ⟨w3.heap.size, 0, none⟩ = some (.slice a4 n4 c4)) /\ Bag w (fun y => Slot y w3.heap.size (.slice a4 n4 c4) /\ NatIs y (.agg #[.slice a4 n4 c4]) (numOf t.data.toList) /\ Slot y w2.heap.size (.slice a3 n3 c3) /\ NatIs y (.agg #[.slice a3 n3 c3]) (numOf s.data.toList) /\ Slot3 y (w.heap.size + 1) (.slice none 0 0) (.bool false) (.slice none 0 0) /\ Slot3 y w.heap.size (.bool b) (.string s) (.string t) /\ True) w4.drew := (have B9 := BB.out.drew; ⟨HC.out _ B9.now, B9⟩)
 generalize hw1 : w4.drew = w1 at *
 refine wpAnyH_take (i := 0) (oi := ⟨some 32, Op.fieldAddr 46 (Operand.tmp 1) 0, 0, _, _, none⟩) (v := ?v1) rfl (by kernel_rfl) (by kernel_rfl) (by kernel_rfl) (fun _ _ _ h => h) (Or.inl ⟨by rfl, ?hy1⟩) hH ?_
 case hy1 =>
  intro y hy
  (try dsimp only at hy)
  go_simp
  try with_reducible rfl
 try simp only [Act.put, List.setIfInBounds_toArray, List.set_cons_zero, List.set_cons_succ]
 refine wpAnyH_take (i := 1) (oi := ⟨some 33, Op.load 4 (Operand.tmp 32), 4, _, _, none⟩) (v := ?v2) rfl (by kernel_rfl) (by kernel_rfl) (by kernel_rfl) (fun _ _ _ h => h) (Or.inl ⟨by rfl, ?hy2⟩) hH ?_
 case hy2 =>
  intro y hy
  (try dsimp only at hy)
  go_simp
  try with_reducible rfl
 try simp only [Act.put, List.setIfInBounds_toArray, List.set_cons_zero, List.set_cons_succ]
 refine wpAnyH_take (i := 2) (oi := ⟨some 34, Op.load 49 (Operand.tmp 4), 49, _, _, none⟩) (v := ?v3) rfl (by kernel_rfl) (by kernel_rfl) (by kernel_rfl) (fun _ _ _ h => h) (Or.inl ⟨by rfl, ?hy3⟩) hH ?_
 case hy3 =>
  intro y hy
  (try dsimp only at hy)
  go_simp
  try with_reducible rfl
 try simp only [Act.put, List.setIfInBounds_toArray, List.set_cons_zero, List.set_cons_succ]
 refine wpAnyH_take (i := 4) (oi := ⟨some 36, Op.load 49 (Operand.tmp 6), 49, _, _, none⟩) (v := ?v4) rfl (by kernel_rfl) (by kernel_rfl) (by kernel_rfl) (fun _ _ _ h => h) (Or.inl ⟨by rfl, ?hy4⟩) hH ?_
 case hy4 =>
  intro y hy
  (try dsimp only at hy)
  go_simp
  try with_reducible rfl
 try simp only [Act.put, List.setIfInBounds_toArray, List.set_cons_zero, List.set_cons_succ]
 refine wpAnyH_ready (rs := [3, 6]) (by kernel_rfl) (by simp) ?_
 refine AllReadyH.cons (o := ⟨some 35, Op.call { callee := Callee.value (Operand.func 103), args := #[Operand.tmp 33, Operand.tmp 34], argTypes := #[4, 49] }, 51, _, _, none⟩) rfl (fun K hK => ?_) ?_
 · go_simp
   (go_at_call 103; (with_reducible refine (OF.out _ _ _ _ hH.2.now.2.2.2.1).mono ?_); rintro e wy3 ⟨a5, n5, c5, m5, rfl, hi5, hbz⟩)
   refine hK.out _ _ ?_ (fun hH => ?_)
   · exact (have B9 := Bag.go hH.2 hbz; ⟨HC.out _ B9.now, B9⟩)
   clear hK K
   try simp only [Act.put, List.setIfInBounds_toArray, List.set_cons_zero, List.set_cons_succ]
   refine wpAnyH_ready (rs := [5, 6]) (by kernel_rfl) (by simp) ?_
   refine AllReadyH.cons (o := ⟨some 37, Op.call { callee := Callee.value (Operand.func 75), args := #[Operand.tmp 35, Operand.tmp 36], argTypes := #[51, 49] }, 53, _, _, none⟩) rfl (fun K hK => ?_) ?_
   · go_simp
     (go_at_call 75; (with_reducible refine (LW.out _ _ _ _ _ _ _ _ (IntAt.below hi5 (by exact Below.refl _ _)) hH.2.now.2.1).mono ?_); rintro e wy5 ⟨a6, n6, c6, m6, a7, n7, c7, rfl, hr5, hbz⟩)
     refine hK.out _ _ ?_ (fun hH => ?_)
     · exact (have B9 := Bag.go hH.2 hbz; ⟨HC.out _ B9.now, B9⟩)
     clear hK K
     try simp only [Act.put, List.setIfInBounds_toArray, List.set_cons_zero, List.set_cons_succ]
     refine wpAnyH_ready (rs := [6]) (by kernel_rfl) (by simp) ?_
     refine AllReadyH.cons (o := ⟨some 8, Op.alloc 53, 0, _, _, none⟩) rfl (fun K hK => ?_) AllReadyH.nil
     have hkA := hH.2.now.1.lt
     have sA := Slot3.new wy5 (.slice none 0 0) (.bool false) (.slice none 0 0) 53
     go_simp
     refine hK.out _ _ ?_ (fun hH => ?_)
     · exact (have B9 := Bag.alloc hH.2 _; ⟨HC.out _ B9.now, B9⟩)
     clear hK K
     try simp only [Act.put, List.setIfInBounds_toArray, List.set_cons_zero, List.set_cons_succ]
     refine wpAnyH_ready (rs := [7]) (by kernel_rfl) (by simp) ?_
     refine AllReadyH.cons (o := ⟨none, Op.store 53 (Operand.tmp 8) (Operand.tmp 37), 0, _, _, none⟩) rfl (fun K hK => ?_) AllReadyH.nil
     have hr5 := hr5.below (show Below wy5.heap.size wy5 (World.alloc wy5 (.cells #[.slice none 0 0, .bool false, .slice none 0 0] 53)) from by refine Below.more ?_ _; exact Below.refl _ _)
     generalize hww : (World.alloc wy5 (.cells #[.slice none 0 0, .bool false, .slice none 0 0] 53)) = ww at *
     have l0 := sA.cell
     have l1 := sA.cell1
     have l2 := sA.cell2
     have f0 := sA.free
     have f1 := sA.free1
     have f2 := sA.free2
     have B9s := HP.out _ _ sA (by omega) hH.2 a6 n6 c6 m6 a7 n7 c7
     have hr5 := RatAt.set3 hr5 sA (.slice a6 n6 c6) (.bool m6) (.slice a7 n7 c7)
     have sA := (sA.set2 (.slice a6 n6 c6) (.bool m6)).set1 (.slice a7 n7 c7)
     go_simp
     refine hK.out _ _ ?_ (fun hH => ?_)
     · exact ⟨HC.out _ B9s.now, B9s⟩
     clear hK K
     try simp only [Act.put, List.setIfInBounds_toArray, List.set_cons_zero, List.set_cons_succ]
     refine wpAnyH_done (by kernel_rfl) ?_ _
     refine NoPanic.normal ?_
     exact TL _ _ _ _ _ _ _ _ _ _ _ _ _ hH.2 sA hr5
   refine AllReadyH.cons (o := ⟨some 8, Op.alloc 53, 0, _, _, none⟩) rfl (fun K hK => ?_) ?_
   · have hkA := hH.2.now.1.lt
     have sA := Slot3.new wy3 (.slice none 0 0) (.bool false) (.slice none 0 0) 53
     go_simp
     refine hK.out _ _ ?_ (fun hH => ?_)
     · exact (have B9 := Bag.alloc hH.2 _; ⟨HC.out _ B9.now, B9⟩)
     clear hK K
     try simp only [Act.put, List.setIfInBounds_toArray, List.set_cons_zero, List.set_cons_succ]
     refine wpAnyH_ready (rs := [5]) (by kernel_rfl) (by simp) ?_
     refine AllReadyH.cons (o := ⟨some 37, Op.call { callee := Callee.value (Operand.func 75), args := #[Operand.tmp 35, Operand.tmp 36], argTypes := #[51, 49] }, 53, _, _, none⟩) rfl (fun K hK => ?_) AllReadyH.nil
     go_simp
     (go_at_call 75; (with_reducible refine (LW.out _ _ _ _ _ _ _ _ (IntAt.below hi5 (by refine Below.more ?_ _; exact Below.refl _ _)) hH.2.now.2.1).mono ?_); rintro e wy5 ⟨a6, n6, c6, m6, a7, n7, c7, rfl, hr5, hbz⟩); have sA := sA.below hbz
     refine hK.out _ _ ?_ (fun hH => ?_)
     · exact (have B9 := Bag.go hH.2 hbz; ⟨HC.out _ B9.now, B9⟩)
     clear hK K
     try simp only [Act.put, List.setIfInBounds_toArray, List.set_cons_zero, List.set_cons_succ]
     refine wpAnyH_ready (rs := [7]) (by kernel_rfl) (by simp) ?_
     refine AllReadyH.cons (o := ⟨none, Op.store 53 (Operand.tmp 8) (Operand.tmp 37), 0, _, _, none⟩) rfl (fun K hK => ?_) AllReadyH.nil
     have l0 := sA.cell
     have l1 := sA.cell1
     have l2 := sA.cell2
     have f0 := sA.free
     have f1 := sA.free1
     have f2 := sA.free2
     have B9s := HP.out _ _ sA (by omega) hH.2 a6 n6 c6 m6 a7 n7 c7
     have hr5 := RatAt.set3 hr5 sA (.slice a6 n6 c6) (.bool m6) (.slice a7 n7 c7)
     have sA := (sA.set2 (.slice a6 n6 c6) (.bool m6)).set1 (.slice a7 n7 c7)
     go_simp
     refine hK.out _ _ ?_ (fun hH => ?_)
     · exact ⟨HC.out _ B9s.now, B9s⟩
     clear hK K
     try simp only [Act.put, List.setIfInBounds_toArray, List.set_cons_zero, List.set_cons_succ]
     refine wpAnyH_done (by kernel_rfl) ?_ _
     refine NoPanic.normal ?_
     exact TL _ _ _ _ _ _ _ _ _ _ _ _ _ hH.2 sA hr5
   exact AllReadyH.nil
 refine AllReadyH.cons (o := ⟨some 8, Op.alloc 53, 0, _, _, none⟩) rfl (fun K hK => ?_) ?_
 · have hkA := hH.2.now.1.lt
   have sA := Slot3.new w1 (.slice none 0 0) (.bool false) (.slice none 0 0) 53
   go_simp
   refine hK.out _ _ ?_ (fun hH => ?_)
   · exact (have B9 := Bag.alloc hH.2 _; ⟨HC.out _ B9.now, B9⟩)
   clear hK K
   try simp only [Act.put, List.setIfInBounds_toArray, List.set_cons_zero, List.set_cons_succ]
   refine wpAnyH_ready (rs := [3]) (by kernel_rfl) (by simp) ?_
   refine AllReadyH.cons (o := ⟨some 35, Op.call { callee := Callee.value (Operand.func 103), args := #[Operand.tmp 33, Operand.tmp 34], argTypes := #[4, 49] }, 51, _, _, none⟩) rfl (fun K hK => ?_) AllReadyH.nil
   go_simp
   (go_at_call 103; (with_reducible refine (OF.out _ _ _ _ hH.2.now.2.2.2.1).mono ?_); rintro e wy3 ⟨a5, n5, c5, m5, rfl, hi5, hbz⟩); have sA := sA.below hbz
   refine hK.out _ _ ?_ (fun hH => ?_)
   · exact (have B9 := Bag.go hH.2 hbz; ⟨HC.out _ B9.now, B9⟩)
   clear hK K
   try simp only [Act.put, List.setIfInBounds_toArray, List.set_cons_zero, List.set_cons_succ]
   refine wpAnyH_ready (rs := [5]) (by kernel_rfl) (by simp) ?_
   refine AllReadyH.cons (o := ⟨some 37, Op.call { callee := Callee.value (Operand.func 75), args := #[Operand.tmp 35, Operand.tmp 36], argTypes := #[51, 49] }, 53, _, _, none⟩) rfl (fun K hK => ?_) AllReadyH.nil
   go_simp
   (go_at_call 75; (with_reducible refine (LW.out _ _ _ _ _ _ _ _ (IntAt.below hi5 (by exact Below.refl _ _)) hH.2.now.2.1).mono ?_); rintro e wy5 ⟨a6, n6, c6, m6, a7, n7, c7, rfl, hr5, hbz⟩); have sA := sA.below hbz
   refine hK.out _ _ ?_ (fun hH => ?_)
   · exact (have B9 := Bag.go hH.2 hbz; ⟨HC.out _ B9.now, B9⟩)
   clear hK K
   try simp only [Act.put, List.setIfInBounds_toArray, List.set_cons_zero, List.set_cons_succ]
   refine wpAnyH_ready (rs := [7]) (by kernel_rfl) (by simp) ?_
   refine AllReadyH.cons (o := ⟨none, Op.store 53 (Operand.tmp 8) (Operand.tmp 37), 0, _, _, none⟩) rfl (fun K hK => ?_) AllReadyH.nil
   have l0 := sA.cell
   have l1 := sA.cell1
   have l2 := sA.cell2
   have f0 := sA.free
   have f1 := sA.free1
   have f2 := sA.free2
   have B9s := HP.out _ _ sA (by omega) hH.2 a6 n6 c6 m6 a7 n7 c7
   have hr5 := RatAt.set3 hr5 sA (.slice a6 n6 c6) (.bool m6) (.slice a7 n7 c7)
   have sA := (sA.set2 (.slice a6 n6 c6) (.bool m6)).set1 (.slice a7 n7 c7)
   go_simp
   refine hK.out _ _ ?_ (fun hH => ?_)
   · exact ⟨HC.out _ B9s.now, B9s⟩
   clear hK K
   try simp only [Act.put, List.setIfInBounds_toArray, List.set_cons_zero, List.set_cons_succ]
   refine wpAnyH_done (by kernel_rfl) ?_ _
   refine NoPanic.normal ?_
   exact TL _ _ _ _ _ _ _ _ _ _ _ _ _ hH.2 sA hr5
 exact AllReadyH.nil
theorem of_none (b : Bool) (s t : ByteArray) (w : World) (hs : s.size <= 60) (ht : t.size <= 60) (hk : ofK s t = false) :
    Calls Tryz.prog 53 #[.agg #[.bool b, .string s, .string t]] w fun e w' => RatTold3 w w' e 0 1 false := by
 have B0 := (Bag.start w).box3 (.bool b) (.string s) (.string t) 46 |>.box3 (.slice none 0 0) (.bool false) (.slice none 0 0) 53
 simp only [World.size_alloc] at B0
 have RD : ∀ u : ByteArray, u.size <= 60 -> Hid (∀ wz, Calls Tryz.prog 101 #[.string u] wz fun e w' => SubOf3 wz w' e (if okB u.data.toList then numOf u.data.toList else 0) (okB u.data.toList)) := fun u hu wz => by
  cases h : okB u.data.toList with
  | true => exact ratRead_yes u wz (by omega) h
  | false => exact ratRead_no u wz (by omega) h
 have RS1 := RD s hs
 have RS2 := RD t ht
 unfold SubOf3 at RS1 RS2
 unfold ofK at hk
 have ZE := Lib.hid (fun a n c wz (h : NatIs wz (.agg #[.slice a n c]) (if okB t.data.toList then numOf t.data.toList else 0)) => zero_any _ _ wz h)
 have hz : ∀ g, okB t.data.toList = g -> g = true -> decide ((if okB t.data.toList then numOf t.data.toList else 0) = 0) = decide (numOf t.data.toList = 0) := fun g h1 h2 => by rw [h1, h2, if_pos rfl]
 obtain ⟨g1, hg1⟩ : ∃ g, okB s.data.toList = g := ⟨_, rfl⟩
 obtain ⟨g2, hg2⟩ : ∃ g, okB t.data.toList = g := ⟨_, rfl⟩
 have hz2 := hz g2 hg2
 clear hz RD
 obtain ⟨z, hz3⟩ : ∃ z, decide ((if okB t.data.toList then numOf t.data.toList else 0) = 0) = z := ⟨_, rfl⟩
 rw [hz3] at ZE hz2
 generalize (if okB t.data.toList then numOf t.data.toList else 0) = M at *
 generalize (if okB s.data.toList then numOf s.data.toList else 0) = N at *
 rw [hg1] at RS1 hk
 rw [hg2] at RS2 hk
 have hk2 : (g1 && (g2 && !z)) = false := by
  cases g2 with
  | false => simp
  | true => rw [← hz2 rfl] at hk; simpa using hk
 have BB := Lib.hid B0
 have q0 := B0.now.2.1.cell
 have q1 := B0.now.2.1.cell1
 have q2 := B0.now.2.1.cell2
 clear B0 hs ht hk hg1 hg2 hz2 hz3
 cases g1 <;> cases g2 <;> cases z
 all_goals
  first
   | (exact absurd hk2 (by decide))
   | skip
 all_goals
  clear hk2
  go_enter Tryz.func53, Tryz.ntmps53
  go_wp2_with fail
  go_at_call 101
  (with_reducible refine (RS1.out _).mono ?_)
  rintro e w2 ⟨a3, n3, c3, rfl, hn3, hb2⟩
  have BB := Lib.hid ((BB.out.go hb2).alloc (.cells #[.slice a3 n3 c3] 49))
  clear hb2 hn3
  have q0 := BB.out.now.2.1.cell
  have q1 := BB.out.now.2.1.cell1
  have q2 := BB.out.now.2.1.cell2
  go_wp2_with fail
  go_at_call 101
  (with_reducible refine (RS2.out _).mono ?_)
  rintro e w3 ⟨a4, n4, c4, rfl, hn4, hb3⟩
  have BB := Lib.hid (((BB.out.go hb3).nat hn4).box (.slice a4 n4 c4) 49)
  clear hb3 hn4
  have q3 := BB.out.now.1.cell
  have hs9 := BB.out.now.2.2.1
  have u0 := hs9.cell
  have u1 := hs9.cell1
  have u2 := hs9.cell2
  have g0 := hs9.free
  have g1 := hs9.free1
  have g2 := hs9.free2
  have HS := hs9.set (.slice none 0 0) (.bool false) (.slice none 0 0)
  have HE := Lib.hid (RatTold3.done false BB.out.below (show w.heap.size <= w.heap.size + 1 by omega) hs9 (RatAt.zero _))
  clear hs9
  go_wp2_with (first
   | (go_at_call 102; (with_reducible refine (ZE.out _ _ _ _ BB.out.now.2.1).mono ?_); rintro e w4 ⟨rfl, hb4⟩; have BB := Lib.hid (BB.out.go hb4); clear hb4; have hs9 := BB.out.now.2.2.1; have u0 := hs9.cell; have u1 := hs9.cell1; have u2 := hs9.cell2; have g0 := hs9.free; have g1 := hs9.free1; have g2 := hs9.free2; have HS := hs9.set (.slice none 0 0) (.bool false) (.slice none 0 0); have HE := Lib.hid (RatTold3.done false BB.out.below (show w.heap.size <= w.heap.size + 1 by omega) hs9 (RatAt.zero _)); clear hs9))
  exact bodyPost_ret (v := .tuple #[.agg #[.slice none 0 0, .bool false, .slice none 0 0], .bool false]) (by simp [results, Tryz.results53, go_sem, HS]) rfl HE.out
def ofO (b : Bool) (s t : ByteArray) : Bool := ofK s t && decide (rB (ofP b s t) = b /\ rS (ofP b s t) = s /\ str (dec (ofQ b s t)) = t)
theorem of_any' (b : Bool) (s t : ByteArray) (w : World) (hs : s.size <= 60) (ht : t.size <= 60) :
    Calls Tryz.prog 53 #[.agg #[.bool b, .string s, .string t]] w fun e w' => RatTold3 w w' e (if ofO b s t then ofP b s t else 0) (if ofO b s t then ofQ b s t else 1) (ofO b s t) := by
 cases hk : ofK s t with
 | false =>
  have e : ofO b s t = false := by unfold ofO; rw [hk]; rfl
  rw [e]; exact of_none b s t w hs ht hk
 | true =>
  have e : ofO b s t = decide (rB (ofP b s t) = b /\ rS (ofP b s t) = s /\ str (dec (ofQ b s t)) = t) := by unfold ofO; rw [hk, Bool.true_and]
  rw [e]; exact of_some b s t w hs ht hk _ rfl
theorem ofO_all (b : Bool) (s t : ByteArray) : ofO b s t = (okB s.data.toList && (okB t.data.toList && (decide (str (dec (numOf s.data.toList)) = s) && (decide (str (dec (numOf t.data.toList)) = t) && (!decide (numOf t.data.toList = 0) && (decide (Nat.gcd (numOf s.data.toList) (numOf t.data.toList) = 1) && !(b && decide (numOf s.data.toList = 0)))))))) := by
 unfold ofO ofK ofP ofQ
 by_cases h0 : numOf t.data.toList = 0
 · rw [decide_eq_true h0]; simp
 · rw [of_right b s t (by omega), decide_eq_false h0]
   cases okB s.data.toList <;> cases okB t.data.toList <;> simp
theorem str_beq (s t : ByteArray) : (s.toList == t.toList) = decide (s = t) := by
 rw [Bool.eq_iff_iff, beq_iff_eq, decide_eq_true_eq]
 constructor
 · intro h
   rw [ByteArray.toList_eq, ByteArray.toList_eq] at h
   exact ByteArray.ext (Array.toList_inj.1 h)
 · intro h; rw [h]
theorem r3Right_any (b : Bool) (s t : ByteArray) (w : World) (hs : s.size <= 60) (ht : t.size <= 60) :
    Calls Tryz.prog 52 #[.agg #[.bool b, .string s, .string t]] w fun e w' => e = .returned (.bool (ofO b s t)) /\ Below w.heap.size w w' := by
 rw [ofO_all]
 have BB := Lib.hid ((Bag.start w).box3 (.bool b) (.string s) (.string t) 46)
 have R1 := Lib.hid (fun wz => right_any s wz (by unfold maxLen; omega))
 have R2 := Lib.hid (fun wz => right_any t wz (by unfold maxLen; omega))
 have TR : ∀ (u : ByteArray) (hu : u.size <= 60) (h : okB u.data.toList = true) wz, Calls Tryz.prog 99 #[.string u] wz fun e w' => e = .returned (.string (str (dec (numOf u.data.toList)))) /\ wz = w' := by
  intro u hu h wz
  obtain ⟨g1, g2, g3⟩ := okB_digs h
  have hl : u.data.toList.length = u.size := rfl
  have := trim_any (numOf u.data.toList) u.data.toList.length wz g1 (numOf_lt _ g3) (by omega)
  rw [sdig_numOf _ g3] at this
  exact this
 have T1 := Lib.hid (fun wz h => TR s hs h wz)
 have T2 := Lib.hid (fun wz h => TR t ht h wz)
 have hl1 : dl (numOf s.data.toList) <= 900 ∨ okB s.data.toList = false := by
  cases h : okB s.data.toList with
  | false => exact .inr rfl
  | true =>
   obtain ⟨g1, g2, g3⟩ := okB_digs h
   exact .inl (Nat.le_trans (dl_le _ _ g1 (numOf_lt _ g3)) (by have : s.data.toList.length = s.size := rfl; omega))
 obtain ⟨E, hE⟩ : ∃ E, E = 1000 := ⟨_, rfl⟩
 have hl2 : (dl (numOf t.data.toList) <= 900 /\ numOf t.data.toList < 2 ^ E) ∨ okB t.data.toList = false := by
  cases h : okB t.data.toList with
  | false => exact .inr rfl
  | true =>
   obtain ⟨g1, g2, g3⟩ := okB_digs h
   have hl : t.data.toList.length = t.size := rfl
   refine .inl ⟨Nat.le_trans (dl_le _ _ g1 (numOf_lt _ g3)) (by omega), Nat.lt_of_lt_of_le (numOf_lt _ g3) (Nat.le_trans (Nat.pow_le_pow_right (by omega) (show t.data.toList.length <= 60 by omega)) ?_)⟩
   exact Nat.le_trans (Nat.pow_le_pow_left (show 10 <= 2 ^ 4 by decide) 60) (by rw [← Nat.pow_mul]; exact Nat.pow_le_pow_right (by omega) (by omega))
 generalize hN : numOf s.data.toList = N at *
 generalize hM : numOf t.data.toList = M at *
 have GC : ∀ wz, okB s.data.toList = true -> okB t.data.toList = true -> str (dec N) = s -> str (dec M) = t -> Calls Tryz.prog 100 #[.string s, .string t] wz fun e w' => e = .returned (.string (str (dec (Nat.gcd N M)))) /\ Below wz.heap.size wz w' := by
  intro wz h1 h2 h3 h4
  have := rgcd_any N M wz (by rcases hl1 with h | h; exact h; rw [h1] at h; cases h) (by rcases hl2 with h | h; exact h.1; rw [h2] at h; cases h) E (by omega) (by rcases hl2 with h | h; exact h.2; rw [h2] at h; cases h)
  rw [h3, h4] at this
  exact this
 have hz1 : decide (M = 0) = ((str (dec M)).toList == [48]) := (dec_isnt0 M).symm
 have hz0 : decide (N = 0) = ((str (dec N)).toList == [48]) := (dec_isnt0 N).symm
 have hg1 : decide (Nat.gcd N M = 1) = ((str (dec (Nat.gcd N M))).toList == [49]) := (dec_is1 _).symm
 generalize okB s.data.toList = r1 at *
 generalize okB t.data.toList = r2 at *
 have d1 := str_beq (str (dec N)) s
 have d2 := str_beq (str (dec M)) t
 rw [← d1, ← d2, hz1, hz0, hg1]
 have GC := Lib.hid GC
 generalize str (dec (Nat.gcd N M)) = gg at *
 generalize str (dec N) = s1 at *
 generalize str (dec M) = t1 at *
 have D1 : Hid ((s1.toList == s.toList) = true -> s1 = s) := fun h => of_decide_eq_true (d1.symm.trans h)
 have D2 : Hid ((t1.toList == t.toList) = true -> t1 = t) := fun h => of_decide_eq_true (d2.symm.trans h)
 clear TR hl1 hl2 hN hM hs ht hz1 hz0 hg1 d1 d2
 obtain ⟨e1, he1⟩ : ∃ e, (s1.toList == s.toList) = e := ⟨_, rfl⟩
 obtain ⟨e2, he2⟩ : ∃ e, (t1.toList == t.toList) = e := ⟨_, rfl⟩
 obtain ⟨z, hz⟩ : ∃ e, (t.toList == [48]) = e := ⟨_, rfl⟩
 obtain ⟨x13, h13⟩ : ∃ x, x = (!r1 || !r2) := ⟨_, rfl⟩
 obtain ⟨x21, h21⟩ : ∃ x, x = (x13 || !e1) := ⟨_, rfl⟩
 obtain ⟨x29, h29⟩ : ∃ x, x = (x21 || !e2) := ⟨_, rfl⟩
 obtain ⟨x33, h33⟩ : ∃ x, x = (x29 || z) := ⟨_, rfl⟩
 have OR : ∀ x y z : Bool, z = (x || y) -> ((x = true -> z = true) /\ (x = false -> z = y)) := by intro x y z h; subst h; cases x <;> simp
 have P1 : Hid ((!r1) = true -> x13 = true) := (OR _ _ _ h13).1
 have Q1 : Hid ((!r1) = false -> x13 = !r2) := (OR _ _ _ h13).2
 have P2 : Hid (x13 = true -> x21 = true) := (OR _ _ _ h21).1
 have Q2 : Hid (x13 = false -> x21 = !e1) := (OR _ _ _ h21).2
 have P3 : Hid (x21 = true -> x29 = true) := (OR _ _ _ h29).1
 have Q3 : Hid (x21 = false -> x29 = !e2) := (OR _ _ _ h29).2
 have P4 : Hid (x29 = true -> x33 = true) := (OR _ _ _ h33).1
 have Q4 : Hid (x29 = false -> x33 = z) := (OR _ _ _ h33).2
 have N1 : Hid (x13 = false -> r1 = true) := by intro h; rw [h] at h13; cases r1; cases h13; rfl
 have N2 : Hid (x21 = false -> r2 = true) := by intro h; rw [h] at h21; cases hx : x13; rw [hx] at h13; cases r2; cases r1 <;> cases h13; rfl; rw [hx] at h21; cases h21
 have LAST0 : (x33 = true -> ∀ G, (r1 && (r2 && (e1 && (e2 && (!(t1.toList == [48]) && G))))) = false) /\ (x33 = false -> r1 = true /\ r2 = true /\ e1 = true /\ e2 = true /\ z = false) := by
  rw [h33, h29, h21, h13]
  refine ⟨fun h G => ?_, fun h => ?_⟩
  · cases hh : e2 with
    | false => simp
    | true =>
     have h4 := D2.out (he2.trans hh)
     rw [h4, hz]
     rw [hh] at h
     cases r1 <;> cases r2 <;> cases e1 <;> cases z <;> first | rfl | cases h
  · cases r1 <;> cases r2 <;> cases e1 <;> cases e2 <;> cases z <;> first | exact ⟨rfl, rfl, rfl, rfl, rfl⟩ | cases h
 have LAST := Lib.hid LAST0
 rw [he1, he2]
 clear LAST0 hE OR h13 h21 h29 h33
 go_enter Tryz.func52, Tryz.ntmps52
 go_wp2_with fail
 refine wp_region_inv ⟨(fun j => ([[3], [4], [5], [6], [7], [8], [9], [10], [11], [12], [13], [14], [15], [16], [17], [18], [19], [20], [21], [22], [23], [24], [25], [26], [27], [28], [29], [30], [31], [32], [33]] : List (List Nat)).getD j []), (fun j => ([[], [0], [0, 1], [0, 1, 2], [0, 1, 2, 3], [0, 1, 2, 3, 4], [0, 1, 2, 3, 4, 5], [0, 1, 2, 3, 4, 5, 6], [0, 1, 2, 3, 4, 5, 6, 7], [0, 1, 2, 3, 4, 5, 6, 7, 8], [0, 1, 2, 3, 4, 5, 6, 7, 8, 9], [0, 1, 2, 3, 4, 5, 6, 7, 8, 9, 10], [0, 1, 2, 3, 4, 5, 6, 7, 8, 9, 10, 11], [0, 1, 2, 3, 4, 5, 6, 7, 8, 9, 10, 11, 12], [0, 1, 2, 3, 4, 5, 6, 7, 8, 9, 10], [0, 1, 2, 3, 4, 5, 6, 7, 8, 9, 10, 14], [0, 1, 2, 3, 4, 5, 6, 7, 8, 9, 10, 11, 12, 13, 14, 15], [0, 1, 2, 3, 4, 5, 6, 7, 8, 9, 10, 11, 12, 13, 14, 15, 16], [0, 1, 2, 3, 4, 5, 6, 7, 8, 9, 10, 11, 12, 13, 14, 15, 16, 17], [0, 1, 2, 3, 4, 5, 6, 7, 8, 9, 10, 11, 12, 13, 14, 15, 16, 17, 18], [0, 1, 2, 3, 4, 5, 6, 7, 8, 9, 10, 11, 12, 13, 14, 15, 16, 17, 18, 19], [0, 1, 2, 3, 4, 5, 6, 7, 8, 9, 10, 11, 12, 13, 14, 15, 16, 17, 18, 19, 20], [0, 1, 2, 3, 4, 5, 6, 7, 8, 9, 10, 11, 12, 13, 14, 15, 16, 17, 18], [0, 1, 2, 3, 4, 5, 6, 7, 8, 9, 10, 11, 12, 13, 14, 15, 16, 17, 18, 22], [0, 1, 2, 3, 4, 5, 6, 7, 8, 9, 10, 11, 12, 13, 14, 15, 16, 17, 18, 19, 20, 21, 22, 23], [0, 1, 2, 3, 4, 5, 6, 7, 8, 9, 10, 11, 12, 13, 14, 15, 16, 17, 18, 19, 20, 21, 22, 23, 24], [0, 1, 2, 3, 4, 5, 6, 7, 8, 9, 10, 11, 12, 13, 14, 15, 16, 17, 18, 19, 20, 21, 22, 23, 24, 25], [0, 1, 2, 3, 4, 5, 6, 7, 8, 9, 10, 11, 12, 13, 14, 15, 16, 17, 18, 19, 20, 21, 22, 23, 24, 25, 26], [0, 1, 2, 3, 4, 5, 6, 7, 8, 9, 10, 11, 12, 13, 14, 15, 16, 17, 18, 19, 20, 21, 22, 23, 24, 25, 26, 27], [0, 1, 2, 3, 4, 5, 6, 7, 8, 9, 10, 11, 12, 13, 14, 15, 16, 17, 18, 19, 20, 21, 22, 23, 24, 25, 26, 27, 28], [0, 1, 2, 3, 4, 5, 6, 7, 8, 9, 10, 11, 12, 13, 14, 15, 16, 17, 18, 19, 20, 21, 22, 23, 24, 25, 26, 27, 28, 29]] : List (List Nat)).getD j []), []⟩ (fun jj vv yy => match jj with | 0 => vv = [some (.pointer (some ⟨w.heap.size, 1, none⟩))] | 1 => vv = [some (.string s)] | 2 => vv = [some (.bool r1)] | 3 => vv = [some (.bool (!r1))] | 4 => vv = [some (.bool (!r1))] | 5 => ((!r1) = false) -> (vv = [some (.pointer (some ⟨w.heap.size, 2, none⟩))]) | 6 => ((!r1) = false) -> (vv = [some (.string t)]) | 7 => ((!r1) = false) -> (vv = [some (.bool r2)]) | 8 => ((!r1) = false) -> (vv = [some (.bool (!r2))]) | 9 => vv = [some (.bool x13)] | 10 => vv = [some (.bool x13)] | 11 => (x13 = false) -> (vv = [some (.pointer (some ⟨w.heap.size, 1, none⟩))]) | 12 => (x13 = false) -> (vv = [some (.string s)]) | 13 => (x13 = false) -> (vv = [some (.string s1)]) | 14 => (x13 = false) -> (vv = [some (.pointer (some ⟨w.heap.size, 1, none⟩))]) | 15 => (x13 = false) -> (vv = [some (.string s)]) | 16 => (x13 = false) -> (vv = [some (.bool (!e1))]) | 17 => vv = [some (.bool x21)] | 18 => vv = [some (.bool x21)] | 19 => (x21 = false) -> (vv = [some (.pointer (some ⟨w.heap.size, 2, none⟩))]) | 20 => (x21 = false) -> (vv = [some (.string t)]) | 21 => (x21 = false) -> (vv = [some (.string t1)]) | 22 => (x21 = false) -> (vv = [some (.pointer (some ⟨w.heap.size, 2, none⟩))]) | 23 => (x21 = false) -> (vv = [some (.string t)]) | 24 => (x21 = false) -> (vv = [some (.bool (!e2))]) | 25 => vv = [some (.bool x29)] | 26 => vv = [some (.bool x29)] | 27 => (x29 = false) -> (vv = [some (.pointer (some ⟨w.heap.size, 2, none⟩))]) | 28 => (x29 = false) -> (vv = [some (.string t)]) | 29 => (x29 = false) -> (vv = [some (.bool z)]) | 30 => vv = [some (.bool x33)] | _ => True) (Bag w (fun y => Slot3 y w.heap.size (.bool b) (.string s) (.string t) /\ True)) (by kernel_rfl) (by kernel_rfl) (by kernel_rfl) BB.out.drew ?_ ?_ ?_
 · intro jj vv yw yw2 hb h
   match jj, h with
   | 0, h => exact h
   | 1, h => exact h
   | 2, h => exact h
   | 3, h => exact h
   | 4, h => exact h
   | 5, h => exact h
   | 6, h => exact h
   | 7, h => exact h
   | 8, h => exact h
   | 9, h => exact h
   | 10, h => exact h
   | 11, h => exact h
   | 12, h => exact h
   | 13, h => exact h
   | 14, h => exact h
   | 15, h => exact h
   | 16, h => exact h
   | 17, h => exact h
   | 18, h => exact h
   | 19, h => exact h
   | 20, h => exact h
   | 21, h => exact h
   | 22, h => exact h
   | 23, h => exact h
   | 24, h => exact h
   | 25, h => exact h
   | 26, h => exact h
   | 27, h => exact h
   | 28, h => exact h
   | 29, h => exact h
   | 30, h => exact h
   | _ + 31, h => exact h
 · intro ac yw hsz hdf hold hB hp
   have t33 : ac.tmps[33]? = some (.bool x33) := (List.cons.inj (hp 30 (by decide))).1
   have t1' : ac.tmps[1]? = some (.pointer (some ⟨w.heap.size, 0, none⟩)) := hold 1 (by kernel_rfl)
   clear hold hp
   have q0 := hB.now.1.cell
   have q1 := hB.now.1.cell1
   have q2 := hB.now.1.cell2
   obtain ⟨F, hF⟩ : ∃ F : Nat -> Value, ∀ i, (ac.tmps[i]?).getD undef = F i := ⟨_, fun _ => rfl⟩
   have f33 := (hF 33).symm.trans (congrArg (fun x => Option.getD x undef) t33)
   have f1 := (hF 1).symm.trans (congrArg (fun x => Option.getD x undef) t1')
   have hac := act_eq (n := 50) hsz F hF
   rw [show ((List.range 50).map F).toArray = #[F 0, F 1, F 2, F 3, F 4, F 5, F 6, F 7, F 8, F 9, F 10, F 11, F 12, F 13, F 14, F 15, F 16, F 17, F 18, F 19, F 20, F 21, F 22, F 23, F 24, F 25, F 26, F 27, F 28, F 29, F 30, F 31, F 32, F 33, F 34, F 35, F 36, F 37, F 38, F 39, F 40, F 41, F 42, F 43, F 44, F 45, F 46, F 47, F 48, F 49] from rfl, f33, f1, hdf] at hac
   simp only [Option.getD_some] at hac
   subst hac
   clear hF f33 f1
   obtain ⟨L1, L2⟩ := LAST.out
   have BB := Lib.hid hB
   clear LAST P1 Q1 P2 Q2 P3 Q3 P4 Q4 N1 N2 R1 R2 T1 T2 hB
   cases x33 with
   | true =>
    have L3 := Lib.hid (L1 rfl)
    clear L1 L2 GC he1 he2 hz D1 D2
    go_wp2
    go_ret
    exact ⟨congrArg (fun b => Ending.returned (.bool b)) (L3.out _).symm, BB.out.below⟩
   | false =>
    obtain ⟨rfl, rfl, rfl, rfl, rfl⟩ := L2 rfl
    obtain rfl := D1.out he1
    obtain rfl := D2.out he2
    have GC2 := Lib.hid (fun wz => GC.out wz rfl rfl rfl rfl)
    clear GC
    obtain ⟨g, hg⟩ : ∃ g, (gg.toList == [49]) = g := ⟨_, rfl⟩
    obtain ⟨z0, hz0⟩ : ∃ g, (s1.toList == [48]) = g := ⟨_, rfl⟩
    have HZ := Lib.hid (And.intro hz (And.intro hg hz0))
    clear L1 L2 he1 he2 D1 D2
    cases g <;> cases b <;> cases z0
    all_goals
     go_wp2_with fail
     go_at_call 100
     (with_reducible refine (GC2.out _).mono ?_)
     rintro e w2 ⟨rfl, hb2⟩
     have BB := Lib.hid (BB.out.go hb2)
     have q0 := BB.out.now.1.cell
     have q1 := BB.out.now.1.cell1
     have q2 := BB.out.now.1.cell2
     go_wp2
     go_ret
     exact ⟨congrArg (fun b => Ending.returned (.bool b)) (by rw [HZ.out.1, HZ.out.2.1, HZ.out.2.2]; rfl), BB.out.below⟩
 refine Stps.cons (o := _) ?_ ?_
 · intro ac yw hsz hold hB hp K hK
   have t1 : ac.tmps[1]? = some (.pointer (some ⟨w.heap.size, 0, none⟩)) := hold 1 (by kernel_rfl)
   clear hold hp hsz
   go_simp
   exact hK.out _ _ ⟨hB, rfl, Nat.le_refl _, .inl (Below.refl _ _), fun h => absurd h (by decide)⟩
 refine Stps.cons (o := _) ?_ ?_
 · intro ac yw hsz hold hB hp K hK
   have e0 := hp 0 (by decide)
   have t3 : ac.tmps[3]? = some (.pointer (some ⟨w.heap.size, 1, none⟩)) := (List.cons.inj e0).1
   clear hold hp hsz e0
   have q0 := hB.now.1.cell
   have q1 := hB.now.1.cell1
   have q2 := hB.now.1.cell2
   go_simp
   exact hK.out _ _ ⟨hB, rfl, Nat.le_refl _, .inl (Below.refl _ _), fun h => absurd h (by decide)⟩
 refine Stps.cons (o := _) ?_ ?_
 · intro ac yw hsz hold hB hp K hK
   have e1 := hp 1 (by decide)
   have t4 : ac.tmps[4]? = some (.string s) := (List.cons.inj e1).1
   clear hold hp hsz e1
   go_simp
   (go_at_call 98; (with_reducible refine (R1.out _).mono ?_); rintro e wz ⟨rfl, rfl⟩; have hbz := Below.refl yw.heap.size yw)
   exact hK.out _ _ ⟨hB.go hbz, rfl, hbz.size, .inl hbz, fun h => absurd h (by decide)⟩
 refine Stps.cons (o := _) ?_ ?_
 · intro ac yw hsz hold hB hp K hK
   have e2 := hp 2 (by decide)
   have t5 : ac.tmps[5]? = some (.bool r1) := (List.cons.inj e2).1
   clear hold hp hsz e2
   go_simp
   exact hK.out _ _ ⟨hB, rfl, Nat.le_refl _, .inl (Below.refl _ _), fun h => absurd h (by decide)⟩
 refine Stps.cons (o := _) ?_ ?_
 · intro ac yw hsz hold hB hp K hK
   have e3 := hp 3 (by decide)
   have t6 : ac.tmps[6]? = some (.bool (!r1)) := (List.cons.inj e3).1
   clear hold hp hsz e3
   go_simp
   exact hK.out _ _ ⟨hB, rfl, Nat.le_refl _, .inl (Below.refl _ _), fun h => absurd h (by decide)⟩
 refine Stps.cons (o := _) ?_ ?_
 · intro ac yw hsz hold hB hp K hK
   have t7 : ac.tmps[7]? = some (.bool (!r1)) := (List.cons.inj (hp 4 (by decide))).1
   by_cases hc : ((!r1)) = false
   · rw [hc] at t7
     rw [if_pos (wanted_pos rfl rfl t7)]
     have t1 : ac.tmps[1]? = some (.pointer (some ⟨w.heap.size, 0, none⟩)) := hold 1 (by kernel_rfl)
     clear hold hp hsz
     go_simp
     exact hK.out _ _ ⟨hB, fun _ => rfl, Nat.le_refl _, .inl (Below.refl _ _), fun h => absurd h (by decide)⟩
   · rw [if_neg (by rw [wanted_neg rfl rfl t7 (fun e => hc (by injection e))]; decide)]
     exact hK.out _ _ ⟨hB, fun h => absurd h hc, Nat.le_refl _, .inl (Below.refl _ _), fun h => absurd h (by decide)⟩
 refine Stps.cons (o := _) ?_ ?_
 · intro ac yw hsz hold hB hp K hK
   have t7 : ac.tmps[7]? = some (.bool (!r1)) := (List.cons.inj (hp 4 (by decide))).1
   by_cases hc : ((!r1)) = false
   · rw [hc] at t7
     rw [if_pos (wanted_pos rfl rfl t7)]
     have e5 := hp 5 (by decide) hc
     have t8 : ac.tmps[8]? = some (.pointer (some ⟨w.heap.size, 2, none⟩)) := (List.cons.inj e5).1
     clear hold hp hsz e5
     have q0 := hB.now.1.cell
     have q1 := hB.now.1.cell1
     have q2 := hB.now.1.cell2
     go_simp
     exact hK.out _ _ ⟨hB, fun _ => rfl, Nat.le_refl _, .inl (Below.refl _ _), fun h => absurd h (by decide)⟩
   · rw [if_neg (by rw [wanted_neg rfl rfl t7 (fun e => hc (by injection e))]; decide)]
     exact hK.out _ _ ⟨hB, fun h => absurd h hc, Nat.le_refl _, .inl (Below.refl _ _), fun h => absurd h (by decide)⟩
 refine Stps.cons (o := _) ?_ ?_
 · intro ac yw hsz hold hB hp K hK
   have t7 : ac.tmps[7]? = some (.bool (!r1)) := (List.cons.inj (hp 4 (by decide))).1
   by_cases hc : ((!r1)) = false
   · rw [hc] at t7
     rw [if_pos (wanted_pos rfl rfl t7)]
     have e6 := hp 6 (by decide) hc
     have t9 : ac.tmps[9]? = some (.string t) := (List.cons.inj e6).1
     clear hold hp hsz e6
     go_simp
     (go_at_call 98; (with_reducible refine (R2.out _).mono ?_); rintro e wz ⟨rfl, rfl⟩; have hbz := Below.refl yw.heap.size yw)
     exact hK.out _ _ ⟨hB.go hbz, fun _ => rfl, hbz.size, .inl hbz, fun h => absurd h (by decide)⟩
   · rw [if_neg (by rw [wanted_neg rfl rfl t7 (fun e => hc (by injection e))]; decide)]
     exact hK.out _ _ ⟨hB, fun h => absurd h hc, Nat.le_refl _, .inl (Below.refl _ _), fun h => absurd h (by decide)⟩
 refine Stps.cons (o := _) ?_ ?_
 · intro ac yw hsz hold hB hp K hK
   have t7 : ac.tmps[7]? = some (.bool (!r1)) := (List.cons.inj (hp 4 (by decide))).1
   by_cases hc : ((!r1)) = false
   · rw [hc] at t7
     rw [if_pos (wanted_pos rfl rfl t7)]
     have e7 := hp 7 (by decide) hc
     have t10 : ac.tmps[10]? = some (.bool r2) := (List.cons.inj e7).1
     clear hold hp hsz e7
     go_simp
     exact hK.out _ _ ⟨hB, fun _ => rfl, Nat.le_refl _, .inl (Below.refl _ _), fun h => absurd h (by decide)⟩
   · rw [if_neg (by rw [wanted_neg rfl rfl t7 (fun e => hc (by injection e))]; decide)]
     exact hK.out _ _ ⟨hB, fun h => absurd h hc, Nat.le_refl _, .inl (Below.refl _ _), fun h => absurd h (by decide)⟩
 refine Stps.cons (o := _) ?_ ?_
 · intro ac yw hsz hold hB hp K hK
   have t7 : ac.tmps[7]? = some (.bool (!r1)) := (List.cons.inj (hp 4 (by decide))).1
   by_cases hc : ((!r1)) = true
   · rw [hc] at t7
     clear hold hp hsz
     go_simp
     exact hK.out _ _ ⟨hB, congrArg (fun b => [some (Value.bool b)]) (P1.out hc).symm, Nat.le_refl _, .inl (Below.refl _ _), fun h => absurd h (by decide)⟩
   · have hc : ((!r1)) = false := by simpa using hc
     rw [hc] at t7
     have t11 : ac.tmps[11]? = some (.bool (!r2)) := (List.cons.inj (hp 8 (by decide) hc)).1
     clear hold hp hsz
     go_simp
     exact hK.out _ _ ⟨hB, congrArg (fun b => [some (Value.bool b)]) (Q1.out hc).symm, Nat.le_refl _, .inl (Below.refl _ _), fun h => absurd h (by decide)⟩
 refine Stps.cons (o := _) ?_ ?_
 · intro ac yw hsz hold hB hp K hK
   have e9 := hp 9 (by decide)
   have t12 : ac.tmps[12]? = some (.bool x13) := (List.cons.inj e9).1
   clear hold hp hsz e9
   go_simp
   exact hK.out _ _ ⟨hB, rfl, Nat.le_refl _, .inl (Below.refl _ _), fun h => absurd h (by decide)⟩
 refine Stps.cons (o := _) ?_ ?_
 · intro ac yw hsz hold hB hp K hK
   have t13 : ac.tmps[13]? = some (.bool x13) := (List.cons.inj (hp 10 (by decide))).1
   by_cases hc : (x13) = false
   · rw [hc] at t13
     rw [if_pos (wanted_pos rfl rfl t13)]
     have t1 : ac.tmps[1]? = some (.pointer (some ⟨w.heap.size, 0, none⟩)) := hold 1 (by kernel_rfl)
     clear hold hp hsz
     go_simp
     exact hK.out _ _ ⟨hB, fun _ => rfl, Nat.le_refl _, .inl (Below.refl _ _), fun h => absurd h (by decide)⟩
   · rw [if_neg (by rw [wanted_neg rfl rfl t13 (fun e => hc (by injection e))]; decide)]
     exact hK.out _ _ ⟨hB, fun h => absurd h hc, Nat.le_refl _, .inl (Below.refl _ _), fun h => absurd h (by decide)⟩
 refine Stps.cons (o := _) ?_ ?_
 · intro ac yw hsz hold hB hp K hK
   have t13 : ac.tmps[13]? = some (.bool x13) := (List.cons.inj (hp 10 (by decide))).1
   by_cases hc : (x13) = false
   · rw [hc] at t13
     rw [if_pos (wanted_pos rfl rfl t13)]
     have e11 := hp 11 (by decide) hc
     have t14 : ac.tmps[14]? = some (.pointer (some ⟨w.heap.size, 1, none⟩)) := (List.cons.inj e11).1
     clear hold hp hsz e11
     have q0 := hB.now.1.cell
     have q1 := hB.now.1.cell1
     have q2 := hB.now.1.cell2
     go_simp
     exact hK.out _ _ ⟨hB, fun _ => rfl, Nat.le_refl _, .inl (Below.refl _ _), fun h => absurd h (by decide)⟩
   · rw [if_neg (by rw [wanted_neg rfl rfl t13 (fun e => hc (by injection e))]; decide)]
     exact hK.out _ _ ⟨hB, fun h => absurd h hc, Nat.le_refl _, .inl (Below.refl _ _), fun h => absurd h (by decide)⟩
 refine Stps.cons (o := _) ?_ ?_
 · intro ac yw hsz hold hB hp K hK
   have t13 : ac.tmps[13]? = some (.bool x13) := (List.cons.inj (hp 10 (by decide))).1
   by_cases hc : (x13) = false
   · rw [hc] at t13
     rw [if_pos (wanted_pos rfl rfl t13)]
     have e12 := hp 12 (by decide) hc
     have t15 : ac.tmps[15]? = some (.string s) := (List.cons.inj e12).1
     clear hold hp hsz e12
     go_simp
     (go_at_call 99; (with_reducible refine (T1.out _ (N1.out hc)).mono ?_); rintro e wz ⟨rfl, rfl⟩; have hbz := Below.refl yw.heap.size yw)
     exact hK.out _ _ ⟨hB.go hbz, fun _ => rfl, hbz.size, .inl hbz, fun h => absurd h (by decide)⟩
   · rw [if_neg (by rw [wanted_neg rfl rfl t13 (fun e => hc (by injection e))]; decide)]
     exact hK.out _ _ ⟨hB, fun h => absurd h hc, Nat.le_refl _, .inl (Below.refl _ _), fun h => absurd h (by decide)⟩
 refine Stps.cons (o := _) ?_ ?_
 · intro ac yw hsz hold hB hp K hK
   have t13 : ac.tmps[13]? = some (.bool x13) := (List.cons.inj (hp 10 (by decide))).1
   by_cases hc : (x13) = false
   · rw [hc] at t13
     rw [if_pos (wanted_pos rfl rfl t13)]
     have t1 : ac.tmps[1]? = some (.pointer (some ⟨w.heap.size, 0, none⟩)) := hold 1 (by kernel_rfl)
     clear hold hp hsz
     go_simp
     exact hK.out _ _ ⟨hB, fun _ => rfl, Nat.le_refl _, .inl (Below.refl _ _), fun h => absurd h (by decide)⟩
   · rw [if_neg (by rw [wanted_neg rfl rfl t13 (fun e => hc (by injection e))]; decide)]
     exact hK.out _ _ ⟨hB, fun h => absurd h hc, Nat.le_refl _, .inl (Below.refl _ _), fun h => absurd h (by decide)⟩
 refine Stps.cons (o := _) ?_ ?_
 · intro ac yw hsz hold hB hp K hK
   have t13 : ac.tmps[13]? = some (.bool x13) := (List.cons.inj (hp 10 (by decide))).1
   by_cases hc : (x13) = false
   · rw [hc] at t13
     rw [if_pos (wanted_pos rfl rfl t13)]
     have e14 := hp 14 (by decide) hc
     have t17 : ac.tmps[17]? = some (.pointer (some ⟨w.heap.size, 1, none⟩)) := (List.cons.inj e14).1
     clear hold hp hsz e14
     have q0 := hB.now.1.cell
     have q1 := hB.now.1.cell1
     have q2 := hB.now.1.cell2
     go_simp
     exact hK.out _ _ ⟨hB, fun _ => rfl, Nat.le_refl _, .inl (Below.refl _ _), fun h => absurd h (by decide)⟩
   · rw [if_neg (by rw [wanted_neg rfl rfl t13 (fun e => hc (by injection e))]; decide)]
     exact hK.out _ _ ⟨hB, fun h => absurd h hc, Nat.le_refl _, .inl (Below.refl _ _), fun h => absurd h (by decide)⟩
 refine Stps.cons (o := _) ?_ ?_
 · intro ac yw hsz hold hB hp K hK
   have t13 : ac.tmps[13]? = some (.bool x13) := (List.cons.inj (hp 10 (by decide))).1
   by_cases hc : (x13) = false
   · rw [hc] at t13
     rw [if_pos (wanted_pos rfl rfl t13)]
     have e13 := hp 13 (by decide) hc
     have t16 : ac.tmps[16]? = some (.string s1) := (List.cons.inj e13).1
     have e15 := hp 15 (by decide) hc
     have t18 : ac.tmps[18]? = some (.string s) := (List.cons.inj e15).1
     clear hold hp hsz e13 e15
     go_simp
     exact hK.out _ _ ⟨hB, fun _ => rfl, Nat.le_refl _, .inl (Below.refl _ _), fun h => absurd h (by decide)⟩
   · rw [if_neg (by rw [wanted_neg rfl rfl t13 (fun e => hc (by injection e))]; decide)]
     exact hK.out _ _ ⟨hB, fun h => absurd h hc, Nat.le_refl _, .inl (Below.refl _ _), fun h => absurd h (by decide)⟩
 refine Stps.cons (o := _) ?_ ?_
 · intro ac yw hsz hold hB hp K hK
   have t13 : ac.tmps[13]? = some (.bool x13) := (List.cons.inj (hp 10 (by decide))).1
   by_cases hc : (x13) = true
   · rw [hc] at t13
     clear hold hp hsz
     go_simp
     exact hK.out _ _ ⟨hB, congrArg (fun b => [some (Value.bool b)]) (P2.out hc).symm, Nat.le_refl _, .inl (Below.refl _ _), fun h => absurd h (by decide)⟩
   · have hc : (x13) = false := by simpa using hc
     rw [hc] at t13
     have t19 : ac.tmps[19]? = some (.bool (!e1)) := (List.cons.inj (hp 16 (by decide) hc)).1
     clear hold hp hsz
     go_simp
     exact hK.out _ _ ⟨hB, congrArg (fun b => [some (Value.bool b)]) (Q2.out hc).symm, Nat.le_refl _, .inl (Below.refl _ _), fun h => absurd h (by decide)⟩
 refine Stps.cons (o := _) ?_ ?_
 · intro ac yw hsz hold hB hp K hK
   have e17 := hp 17 (by decide)
   have t20 : ac.tmps[20]? = some (.bool x21) := (List.cons.inj e17).1
   clear hold hp hsz e17
   go_simp
   exact hK.out _ _ ⟨hB, rfl, Nat.le_refl _, .inl (Below.refl _ _), fun h => absurd h (by decide)⟩
 refine Stps.cons (o := _) ?_ ?_
 · intro ac yw hsz hold hB hp K hK
   have t21 : ac.tmps[21]? = some (.bool x21) := (List.cons.inj (hp 18 (by decide))).1
   by_cases hc : (x21) = false
   · rw [hc] at t21
     rw [if_pos (wanted_pos rfl rfl t21)]
     have t1 : ac.tmps[1]? = some (.pointer (some ⟨w.heap.size, 0, none⟩)) := hold 1 (by kernel_rfl)
     clear hold hp hsz
     go_simp
     exact hK.out _ _ ⟨hB, fun _ => rfl, Nat.le_refl _, .inl (Below.refl _ _), fun h => absurd h (by decide)⟩
   · rw [if_neg (by rw [wanted_neg rfl rfl t21 (fun e => hc (by injection e))]; decide)]
     exact hK.out _ _ ⟨hB, fun h => absurd h hc, Nat.le_refl _, .inl (Below.refl _ _), fun h => absurd h (by decide)⟩
 refine Stps.cons (o := _) ?_ ?_
 · intro ac yw hsz hold hB hp K hK
   have t21 : ac.tmps[21]? = some (.bool x21) := (List.cons.inj (hp 18 (by decide))).1
   by_cases hc : (x21) = false
   · rw [hc] at t21
     rw [if_pos (wanted_pos rfl rfl t21)]
     have e19 := hp 19 (by decide) hc
     have t22 : ac.tmps[22]? = some (.pointer (some ⟨w.heap.size, 2, none⟩)) := (List.cons.inj e19).1
     clear hold hp hsz e19
     have q0 := hB.now.1.cell
     have q1 := hB.now.1.cell1
     have q2 := hB.now.1.cell2
     go_simp
     exact hK.out _ _ ⟨hB, fun _ => rfl, Nat.le_refl _, .inl (Below.refl _ _), fun h => absurd h (by decide)⟩
   · rw [if_neg (by rw [wanted_neg rfl rfl t21 (fun e => hc (by injection e))]; decide)]
     exact hK.out _ _ ⟨hB, fun h => absurd h hc, Nat.le_refl _, .inl (Below.refl _ _), fun h => absurd h (by decide)⟩
 refine Stps.cons (o := _) ?_ ?_
 · intro ac yw hsz hold hB hp K hK
   have t21 : ac.tmps[21]? = some (.bool x21) := (List.cons.inj (hp 18 (by decide))).1
   by_cases hc : (x21) = false
   · rw [hc] at t21
     rw [if_pos (wanted_pos rfl rfl t21)]
     have e20 := hp 20 (by decide) hc
     have t23 : ac.tmps[23]? = some (.string t) := (List.cons.inj e20).1
     clear hold hp hsz e20
     go_simp
     (go_at_call 99; (with_reducible refine (T2.out _ (N2.out hc)).mono ?_); rintro e wz ⟨rfl, rfl⟩; have hbz := Below.refl yw.heap.size yw)
     exact hK.out _ _ ⟨hB.go hbz, fun _ => rfl, hbz.size, .inl hbz, fun h => absurd h (by decide)⟩
   · rw [if_neg (by rw [wanted_neg rfl rfl t21 (fun e => hc (by injection e))]; decide)]
     exact hK.out _ _ ⟨hB, fun h => absurd h hc, Nat.le_refl _, .inl (Below.refl _ _), fun h => absurd h (by decide)⟩
 refine Stps.cons (o := _) ?_ ?_
 · intro ac yw hsz hold hB hp K hK
   have t21 : ac.tmps[21]? = some (.bool x21) := (List.cons.inj (hp 18 (by decide))).1
   by_cases hc : (x21) = false
   · rw [hc] at t21
     rw [if_pos (wanted_pos rfl rfl t21)]
     have t1 : ac.tmps[1]? = some (.pointer (some ⟨w.heap.size, 0, none⟩)) := hold 1 (by kernel_rfl)
     clear hold hp hsz
     go_simp
     exact hK.out _ _ ⟨hB, fun _ => rfl, Nat.le_refl _, .inl (Below.refl _ _), fun h => absurd h (by decide)⟩
   · rw [if_neg (by rw [wanted_neg rfl rfl t21 (fun e => hc (by injection e))]; decide)]
     exact hK.out _ _ ⟨hB, fun h => absurd h hc, Nat.le_refl _, .inl (Below.refl _ _), fun h => absurd h (by decide)⟩
 refine Stps.cons (o := _) ?_ ?_
 · intro ac yw hsz hold hB hp K hK
   have t21 : ac.tmps[21]? = some (.bool x21) := (List.cons.inj (hp 18 (by decide))).1
   by_cases hc : (x21) = false
   · rw [hc] at t21
     rw [if_pos (wanted_pos rfl rfl t21)]
     have e22 := hp 22 (by decide) hc
     have t25 : ac.tmps[25]? = some (.pointer (some ⟨w.heap.size, 2, none⟩)) := (List.cons.inj e22).1
     clear hold hp hsz e22
     have q0 := hB.now.1.cell
     have q1 := hB.now.1.cell1
     have q2 := hB.now.1.cell2
     go_simp
     exact hK.out _ _ ⟨hB, fun _ => rfl, Nat.le_refl _, .inl (Below.refl _ _), fun h => absurd h (by decide)⟩
   · rw [if_neg (by rw [wanted_neg rfl rfl t21 (fun e => hc (by injection e))]; decide)]
     exact hK.out _ _ ⟨hB, fun h => absurd h hc, Nat.le_refl _, .inl (Below.refl _ _), fun h => absurd h (by decide)⟩
 refine Stps.cons (o := _) ?_ ?_
 · intro ac yw hsz hold hB hp K hK
   have t21 : ac.tmps[21]? = some (.bool x21) := (List.cons.inj (hp 18 (by decide))).1
   by_cases hc : (x21) = false
   · rw [hc] at t21
     rw [if_pos (wanted_pos rfl rfl t21)]
     have e21 := hp 21 (by decide) hc
     have t24 : ac.tmps[24]? = some (.string t1) := (List.cons.inj e21).1
     have e23 := hp 23 (by decide) hc
     have t26 : ac.tmps[26]? = some (.string t) := (List.cons.inj e23).1
     clear hold hp hsz e21 e23
     go_simp
     exact hK.out _ _ ⟨hB, fun _ => rfl, Nat.le_refl _, .inl (Below.refl _ _), fun h => absurd h (by decide)⟩
   · rw [if_neg (by rw [wanted_neg rfl rfl t21 (fun e => hc (by injection e))]; decide)]
     exact hK.out _ _ ⟨hB, fun h => absurd h hc, Nat.le_refl _, .inl (Below.refl _ _), fun h => absurd h (by decide)⟩
 refine Stps.cons (o := _) ?_ ?_
 · intro ac yw hsz hold hB hp K hK
   have t21 : ac.tmps[21]? = some (.bool x21) := (List.cons.inj (hp 18 (by decide))).1
   by_cases hc : (x21) = true
   · rw [hc] at t21
     clear hold hp hsz
     go_simp
     exact hK.out _ _ ⟨hB, congrArg (fun b => [some (Value.bool b)]) (P3.out hc).symm, Nat.le_refl _, .inl (Below.refl _ _), fun h => absurd h (by decide)⟩
   · have hc : (x21) = false := by simpa using hc
     rw [hc] at t21
     have t27 : ac.tmps[27]? = some (.bool (!e2)) := (List.cons.inj (hp 24 (by decide) hc)).1
     clear hold hp hsz
     go_simp
     exact hK.out _ _ ⟨hB, congrArg (fun b => [some (Value.bool b)]) (Q3.out hc).symm, Nat.le_refl _, .inl (Below.refl _ _), fun h => absurd h (by decide)⟩
 refine Stps.cons (o := _) ?_ ?_
 · intro ac yw hsz hold hB hp K hK
   have e25 := hp 25 (by decide)
   have t28 : ac.tmps[28]? = some (.bool x29) := (List.cons.inj e25).1
   clear hold hp hsz e25
   go_simp
   exact hK.out _ _ ⟨hB, rfl, Nat.le_refl _, .inl (Below.refl _ _), fun h => absurd h (by decide)⟩
 refine Stps.cons (o := _) ?_ ?_
 · intro ac yw hsz hold hB hp K hK
   have t29 : ac.tmps[29]? = some (.bool x29) := (List.cons.inj (hp 26 (by decide))).1
   by_cases hc : (x29) = false
   · rw [hc] at t29
     rw [if_pos (wanted_pos rfl rfl t29)]
     have t1 : ac.tmps[1]? = some (.pointer (some ⟨w.heap.size, 0, none⟩)) := hold 1 (by kernel_rfl)
     clear hold hp hsz
     go_simp
     exact hK.out _ _ ⟨hB, fun _ => rfl, Nat.le_refl _, .inl (Below.refl _ _), fun h => absurd h (by decide)⟩
   · rw [if_neg (by rw [wanted_neg rfl rfl t29 (fun e => hc (by injection e))]; decide)]
     exact hK.out _ _ ⟨hB, fun h => absurd h hc, Nat.le_refl _, .inl (Below.refl _ _), fun h => absurd h (by decide)⟩
 refine Stps.cons (o := _) ?_ ?_
 · intro ac yw hsz hold hB hp K hK
   have t29 : ac.tmps[29]? = some (.bool x29) := (List.cons.inj (hp 26 (by decide))).1
   by_cases hc : (x29) = false
   · rw [hc] at t29
     rw [if_pos (wanted_pos rfl rfl t29)]
     have e27 := hp 27 (by decide) hc
     have t30 : ac.tmps[30]? = some (.pointer (some ⟨w.heap.size, 2, none⟩)) := (List.cons.inj e27).1
     clear hold hp hsz e27
     have q0 := hB.now.1.cell
     have q1 := hB.now.1.cell1
     have q2 := hB.now.1.cell2
     go_simp
     exact hK.out _ _ ⟨hB, fun _ => rfl, Nat.le_refl _, .inl (Below.refl _ _), fun h => absurd h (by decide)⟩
   · rw [if_neg (by rw [wanted_neg rfl rfl t29 (fun e => hc (by injection e))]; decide)]
     exact hK.out _ _ ⟨hB, fun h => absurd h hc, Nat.le_refl _, .inl (Below.refl _ _), fun h => absurd h (by decide)⟩
 refine Stps.cons (o := _) ?_ ?_
 · intro ac yw hsz hold hB hp K hK
   have t29 : ac.tmps[29]? = some (.bool x29) := (List.cons.inj (hp 26 (by decide))).1
   by_cases hc : (x29) = false
   · rw [hc] at t29
     rw [if_pos (wanted_pos rfl rfl t29)]
     have e28 := hp 28 (by decide) hc
     have t31 : ac.tmps[31]? = some (.string t) := (List.cons.inj e28).1
     clear hold hp hsz e28
     go_simp
     exact hK.out _ _ ⟨hB, fun _ => rfl, Nat.le_refl _, .inl (Below.refl _ _), fun h => absurd h (by decide)⟩
   · rw [if_neg (by rw [wanted_neg rfl rfl t29 (fun e => hc (by injection e))]; decide)]
     exact hK.out _ _ ⟨hB, fun h => absurd h hc, Nat.le_refl _, .inl (Below.refl _ _), fun h => absurd h (by decide)⟩
 refine Stps.cons (o := _) ?_ ?_
 · intro ac yw hsz hold hB hp K hK
   have t29 : ac.tmps[29]? = some (.bool x29) := (List.cons.inj (hp 26 (by decide))).1
   by_cases hc : (x29) = true
   · rw [hc] at t29
     clear hold hp hsz
     go_simp
     exact hK.out _ _ ⟨hB, congrArg (fun b => [some (Value.bool b)]) (P4.out hc).symm, Nat.le_refl _, .inl (Below.refl _ _), fun h => absurd h (by decide)⟩
   · have hc : (x29) = false := by simpa using hc
     rw [hc] at t29
     have t32 : ac.tmps[32]? = some (.bool z) := (List.cons.inj (hp 29 (by decide) hc)).1
     clear hold hp hsz
     go_simp
     exact hK.out _ _ ⟨hB, congrArg (fun b => [some (Value.bool b)]) (Q4.out hc).symm, Nat.le_refl _, .inl (Below.refl _ _), fun h => absurd h (by decide)⟩
 exact Stps.nil _
end Go.Proofs.YtpdcdebnkbnogaaGreatDoor
