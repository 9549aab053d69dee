/-
  Package deci's reader: skip, digits, by contract.
-/
import Derived.Test.YtgpcfncolhmgfaaGreatDoorDg0
import Derived.Test.YtgpcfncolhmgfaaGreatDoorAr3
namespace Go.Proofs.YtgpcfncolhmgfaaGreatDoor
open Go.RowKit

/-- Only one block has changed, and what is new. -/
structure Away (k : Nat) (w w' : World) : Prop where
  os : w'.os = w.os
  tape : w'.tape = w.tape
  output : w'.output = w.output
  far : Far k w w'
theorem Away.refl (k : Nat) (w : World) : Away k w w := ⟨rfl, rfl, rfl, ⟨Nat.le_refl _, fun _ _ _ => rfl⟩⟩
theorem Away.trans {k : Nat} {a b c : World} (h : Away k a b) (g : Away k b c) : Away k a c :=
  ⟨g.os.trans h.os, g.tape.trans h.tape, g.output.trans h.output, ⟨Nat.le_trans h.far.size g.far.size, fun j hj hl => (g.far.block j hj (Nat.lt_of_lt_of_le hl h.far.size)).trans (h.far.block j hj hl)⟩⟩
theorem Away.of_below {k : Nat} {a b : World} (h : Below a.heap.size a b) : Away k a b := ⟨h.os, h.tape, h.output, ⟨h.size, fun j _ hl => h.block j hl⟩⟩
theorem Away.drewN (k : Nat) (w : World) (q : Nat) : Away k w (w.drewN q) := Away.of_below (below_drewN (Below.refl _ _) q)
theorem Away.setCell (k o : Nat) (v : Value) (w : World) : Away k w (w.setCell ⟨k, o, none⟩ v) := ⟨rfl, rfl, rfl, Far.setCell w k o v⟩
theorem Away.below {k B : Nat} {w0 w w' : World} (h : Below B w0 w) (g : Away k w w') (hk : B ≤ k) (hB : B ≤ w.heap.size) : Below B w0 w' :=
  ⟨g.os.trans h.os, g.tape.trans h.tape, g.output.trans h.output, Nat.le_trans h.size g.far.size, fun j hj => (g.far.block j (by omega) (by omega)).trans (h.block j hj)⟩

/-- A reader in a block: its line, and the place up to which it has read. -/
def RdrAt (w : World) (k : Nat) (a : Option Addr) (n c : Nat) (f : Nat → Int) (p : Nat) : Prop :=
  Row w k 45 #[.slice a n c, .int .i64 p] ∧ KRow w .i32 a n c f ∧ p ≤ n ∧ 0 < n ∧ ∀ x, a = some x → x.block ≠ k
theorem RdrAt.away {w w' : World} {k : Nat} {a : Option Addr} {n c : Nat} {f : Nat → Int} {p p' : Nat} (h : RdrAt w k a n c f p) (g : Away k w w') (hr : Row w' k 45 #[.slice a n c, .int .i64 p']) (hp : p' ≤ n) : RdrAt w' k a n c f p' :=
  ⟨hr, h.2.1.away (.inr h.2.2.2.2) g.far, hp, h.2.2.2⟩
theorem RdrAt.drewN {w : World} {k : Nat} {a : Option Addr} {n c : Nat} {f : Nat → Int} {p : Nat} (h : RdrAt w k a n c f p) (q : Nat) : RdrAt (w.drewN q) k a n c f p :=
  h.away (Away.drewN k w q) (h.1.below (below_drewN (Below.refl _ _) q)) h.2.2.1
theorem RdrAt.step {w : World} {k : Nat} {a : Option Addr} {n c : Nat} {f : Nat → Int} {p : Nat} (h : RdrAt w k a n c f p) (p' : Nat) (hp : p' ≤ n) : RdrAt (w.setCell ⟨k, 1, none⟩ (.int .i64 p')) k a n c f p' :=
  h.away (Away.setCell k 1 _ w) (h.1.set 1 _) hp

/-- Does that character stand there? -/
def skB (f : Nat → Int) (n p : Nat) (x : Int) : Bool := decide (p < n) && decide (f p = x)

set_option maxHeartbeats 1600000 in
set_option maxRecDepth 100000 in
theorem skip_any (k : Nat) (a : Option Addr) (n c : Nat) (f : Nat → Int) (p : Nat) (x : Int) (w : World) (h : RdrAt w k a n c f p) :
    Calls Tryz.prog 16 #[.pointer (some ⟨k, 0, none⟩), .int .i32 x] w fun e w' => e = .returned (.bool (skB f n p x)) ∧ RdrAt w' k a n c f (if skB f n p x then p + 1 else p) ∧ Away k w w' := by
  have hl := h.2.1.len
  have hpn := h.2.2.1
  have q0 : w.cell? ⟨k, 0, none⟩ = some (.slice a n c) := h.1.cell 0
  have q1 : w.cell? ⟨k, 1, none⟩ = some (.int .i64 p) := h.1.cell 1
  have f1 : w.frozen? ⟨k, 1, none⟩ = false := h.1.free 1
  have HR := Lib.hid h
  unfold skB
  by_cases hlt : p < n
  · rw [decide_eq_true hlt, Bool.true_and]
    obtain ⟨b, off, rfl, hb, hc⟩ := h.2.1.get hlt
    have d1 : ((p : Int) == n) = false := beq_eq_false_iff_ne.2 (by omega)
    have d2 : (p : Int) < n := by omega
    have hw1 := IntWalk.i64_in ((p : Int) + 1) (by omega)
    clear h
    by_cases hx : f p = x
    · rw [decide_eq_true hx, if_pos rfl]
      rw [hx] at hc
      have d3 : (x != x) = false := bne_self_eq_false _
      have HE : Hid (∀ q, RdrAt ((w.drewN q).setCell ⟨k, 1, none⟩ (.int .i64 ((p : Int) + 1))) k (some ⟨b, off, none⟩) n c f (p + 1) ∧ Away k w ((w.drewN q).setCell ⟨k, 1, none⟩ (.int .i64 ((p : Int) + 1)))) := Lib.hid fun q =>
        ⟨(HR.out.drewN q).step (p + 1) hlt, (Away.drewN k w q).trans (Away.setCell k 1 _ _)⟩
      clear hx
      go_enter Tryz.func16, Tryz.ntmps16
      go_wp2_with fail
      go_quiet (fail)
      go_wp2
      go_ret
      exact ⟨rfl, HE.out _⟩
    · rw [decide_eq_false hx, if_neg (by decide)]
      have d3 : (f p != x) = true := bne_iff_ne.2 hx
      have HE : Hid (∀ q, RdrAt (w.drewN q) k (some ⟨b, off, none⟩) n c f p ∧ Away k w (w.drewN q)) := Lib.hid fun q => ⟨HR.out.drewN q, Away.drewN k w q⟩
      clear hx
      generalize f p = y at *
      go_enter Tryz.func16, Tryz.ntmps16
      go_wp2_with fail
      go_quiet (fail)
      go_wp2
      go_ret
      exact ⟨rfl, HE.out _⟩
  · rw [decide_eq_false hlt, Bool.false_and, if_neg (by decide)]
    obtain rfl : p = n := by omega
    have d1 : ((p : Int) == p) = true := beq_self_eq_true _
    have HE : Hid (∀ q, RdrAt (w.drewN q) k a p c f p ∧ Away k w (w.drewN q)) := Lib.hid fun q => ⟨HR.out.drewN q, Away.drewN k w q⟩
    clear h
    go_enter Tryz.func16, Tryz.ntmps16
    go_wp2_with fail
    go_quiet (fail)
    go_wp2
    go_ret
    exact ⟨rfl, HE.out _⟩

/-- The text of the first digits from a place on. -/
def dtx (f : Nat → Int) (p m : Nat) : List UInt8 := (List.range m).map fun j => UInt8.ofNat (f (p + j)).toNat
theorem dtx_length (f : Nat → Int) (p m : Nat) : (dtx f p m).length = m := by unfold dtx; simp
theorem isD_bds {x : Int} (h : isD x = true) : 48 ≤ x ∧ x ≤ 57 := by unfold isD at h; simpa using h
theorem encode_digit {x : Int} (h : isD x = true) : Utf8.encode x = ⟨#[UInt8.ofNat x.toNat]⟩ := by
  obtain ⟨h0, h1⟩ := isD_bds h
  have : ∀ k : Nat, k ≤ 9 → Utf8.encode ((48 + k : Nat) : Int) = ⟨#[UInt8.ofNat (48 + k)]⟩ := by
    intro k hk
    match k, hk with
    | 0, _ => decide +kernel
    | 1, _ => decide +kernel
    | 2, _ => decide +kernel
    | 3, _ => decide +kernel
    | 4, _ => decide +kernel
    | 5, _ => decide +kernel
    | 6, _ => decide +kernel
    | 7, _ => decide +kernel
    | 8, _ => decide +kernel
    | 9, _ => decide +kernel
  have e := this (x.toNat - 48) (by omega)
  rw [show 48 + (x.toNat - 48) = x.toNat by omega, show ((x.toNat : Nat) : Int) = x by omega] at e
  exact e
theorem runes_fold (f : Nat → Int) (p : Nat) : ∀ m, (∀ j, j < m → isD (f (p + j)) = true) → runesBytes ((List.range m).map fun j => f (p + j)) = str (dtx f p m)
  | 0, _ => rfl
  | m + 1, h => by
    have ih := runes_fold f p m (fun j hj => h j (by omega))
    unfold runesBytes at ih ⊢
    unfold dtx at ih ⊢
    rw [List.range_succ, List.map_append, List.map_append, List.foldl_append, ih]
    show str _ ++ Utf8.encode (f (p + m)) = _
    rw [encode_digit (h m (by omega))]
    apply ByteArray.ext
    rw [ByteArray.data_append]
    apply Array.toList_inj.1
    rw [Array.toList_append, str_toList, str_toList]
    rfl

set_option maxHeartbeats 1600000 in
set_option maxRecDepth 100000 in
theorem digits_conv (w : World) (a : Option Addr) (n c : Nat) (f : Nat → Int) (p m cap : Nat) (h : KRow w .i32 a n c f) (hp : p + m ≤ n) (hd : ∀ j, j < m → isD (f (p + j)) = true) (b off : Nat) (ha : a = some ⟨b, off, none⟩) :
    (convert 22 9 (.slice (some ⟨b, off + p, none⟩) m cap)).run Tryz.prog w = .ok (.string (str (dtx f p m))) w := by
  rw [← runes_fold f p m hd]
  have := run_convert_runes (P := Tryz.prog) w 22 9 21 ⟨b, off + p, none⟩ m cap ((List.range m).map fun j => f (p + j)) (by simp) Tryz.underlying22 Tryz.underlying21 Tryz.underlying9 (by
    intro j hj
    simp at hj
    obtain ⟨b', off', e, hb, hc⟩ := h.get (j := p + j) (by omega)
    rw [ha] at e
    injection e with e
    injection e with e1 e2 _
    subst e1 e2
    rw [show (⟨b, off + p, none⟩ : Addr).add j = ⟨b, off + p + j, none⟩ by unfold Addr.add; split <;> simp_all, Nat.add_assoc, hc]
    simp [List.getD, hj])
  rw [List.take_of_length_le (by simp)] at this
  exact this
theorem digits_nil (w : World) (cap : Nat) : (convert 22 9 (.slice none 0 cap)).run Tryz.prog w = .ok (.string (str [])) w := run_convert_runes_nil w _ _ _ _ _ Tryz.underlying22 Tryz.underlying21 Tryz.underlying9

/-- The place of a reader in a block. -/
def rpos (w : World) (k : Nat) : Nat := match w.cell? ⟨k, 1, none⟩ with | some (.int _ x) => x.toNat | _ => 0

set_option maxHeartbeats 3200000 in
set_option maxRecDepth 100000 in
theorem digits4_any (k : Nat) (a : Option Addr) (n c : Nat) (f : Nat → Int) (p : Nat) (w : World) (h : RdrAt w k a n c f p) :
    Calls Tryz.prog 43 #[.pointer (some ⟨k, 0, none⟩)] w fun e w' => e = .returned (.string (str (dtx f p (dgc f p (n - p))))) ∧ RdrAt w' k a n c f (p + dgc f p (n - p)) ∧ Away k w w' := by
  have hl := h.2.1.len
  have hpn := h.2.2.1
  have ID := Lib.hid (fun c wz => isDigit_any c wz)
  have q0 : w.cell? ⟨k, 0, none⟩ = some (.slice a n c) := h.1.cell 0
  have q1 : w.cell? ⟨k, 1, none⟩ = some (.int .i64 p) := h.1.cell 1
  have HR := Lib.hid h
  clear h
  go_enter Tryz.func43, Tryz.ntmps43
  go_wp2_with fail
  go_loopw [8] (fun _ wr => ∃ m : Nat, Hid (m ≤ dgc f p (n - p) ∧ RdrAt wr k a n c f (p + m) ∧ Away k w wr)) (fun _ wr => n - rpos wr k)
  case atStart => exact ⟨0, Nat.zero_le _, HR.out, Away.refl _ _⟩
  case round =>
    obtain ⟨m, hrel⟩ := hrel
    obtain ⟨hm, hr, haw⟩ := hrel.out
    clear q0 q1
    have hdl := dgc_le f (n - p) p
    have q0 : wr.cell? ⟨k, 0, none⟩ = some (.slice a n c) := hr.1.cell 0
    have q1 : wr.cell? ⟨k, 1, none⟩ = some (.int .i64 ((p + m : Nat) : Int)) := hr.1.cell 1
    have f1 : wr.frozen? ⟨k, 1, none⟩ = false := hr.1.free 1
    have hrp : Hid (rpos wr k = p + m) := by show _ = _; unfold rpos; rw [q1]; rfl
    by_cases hlt : m < n - p
    · obtain ⟨b, off, rfl, hb, hc⟩ := hr.2.1.get (j := p + m) (by omega)
      have d1 : ((p + m : Nat) : Int) < n := by omega
      have hw1 := IntWalk.i64_in (((p + m : Nat) : Int) + 1) (by omega)
      have IDk := Lib.hid (ID.out (f (p + m)))
      cases hd : isD (f (p + m)) with
      | true =>
        rw [hd] at IDk
        have HN : Hid (∀ q, (m + 1 ≤ dgc f p (n - p) ∧ RdrAt ((wr.drewN q).setCell ⟨k, 1, none⟩ (.int .i64 (((p + m : Nat) : Int) + 1))) k (some ⟨b, off, none⟩) n c f (p + (m + 1)) ∧ Away k w ((wr.drewN q).setCell ⟨k, 1, none⟩ (.int .i64 (((p + m : Nat) : Int) + 1)))) ∧ rpos ((wr.drewN q).setCell ⟨k, 1, none⟩ (.int .i64 (((p + m : Nat) : Int) + 1))) k = p + m + 1) := Lib.hid fun q => by
          have hst := (hr.drewN q).step (p + (m + 1)) (by omega)
          refine ⟨⟨dgc_more hm hlt hd, hst, (haw.trans (Away.drewN k wr q)).trans (Away.setCell k 1 _ _)⟩, ?_⟩
          unfold rpos
          rw [show ((wr.drewN q).setCell ⟨k, 1, none⟩ (.int .i64 (((p + m : Nat) : Int) + 1))).cell? ⟨k, 1, none⟩ = some (.int .i64 ((p + (m + 1) : Nat) : Int)) from hst.1.cell 1]
          rfl
        clear hd hdl hr haw hm hrel
        generalize hpm : p + m = pm at *
        have HPM := Lib.hid hpm
        clear hpm
        generalize f pm = x at *
        have QD : Hid (∀ q, Calls Tryz.prog 25 #[.int .i32 x] (wr.drewN q) fun e w'' => e = .returned (.bool true) ∧ ∃ m, w'' = wr.drewN m) := Lib.hid (fun q => (IDk.out (wr.drewN q)).mono (fun e w' h => ⟨h.1, q, h.2.symm⟩))
        go_wp2_with fail
        go_quiet (first | (go_at_call 25; with_reducible exact QD.out _))
        go_wp2
        go_roundw
        case rel => exact ⟨m + 1, (HN.out _).1⟩
        case measure => rw [(HN.out _).2, hrp.out]; omega
      | false =>
        rw [hd] at IDk
        have hend := dgc_end hm (.inr hd)
        have hall := dgc_all f (n - p) p
        rw [hend] at hall
        have HE : Hid (∀ q r, RdrAt ((wr.drewN q).drewN r) k (some ⟨b, off, none⟩) n c f (p + dgc f p (n - p)) ∧ Away k w ((wr.drewN q).drewN r)) := Lib.hid fun q r => ⟨by rw [hend]; exact (hr.drewN q).drewN r, (haw.trans (Away.drewN k wr q)).trans (Away.drewN k _ r)⟩
        have HC : Hid (∀ q cap, (convert 22 9 (.slice (some ⟨b, off + p, none⟩) m cap)).run Tryz.prog (wr.drewN q) = .ok (.string (str (dtx f p m))) (wr.drewN q)) := Lib.hid fun q cap =>
          digits_conv (wr.drewN q) _ n c f p m cap (hr.drewN q).2.1 (by omega) hall b off rfl
        have HV : Hid (str (dtx f p m) = str (dtx f p (dgc f p (n - p)))) := Lib.hid (by rw [hend])
        generalize str (dtx f p m) = tx at *
        clear hd hdl hr haw hm hrel hend hall
        generalize hpm : p + m = pm at *
        have HPM := Lib.hid hpm
        clear hpm
        generalize f pm = x at *
        have QD : Hid (∀ q, Calls Tryz.prog 25 #[.int .i32 x] (wr.drewN q) fun e w'' => e = .returned (.bool false) ∧ ∃ m, w'' = wr.drewN m) := Lib.hid (fun q => (IDk.out (wr.drewN q)).mono (fun e w' h => ⟨h.1, q, h.2.symm⟩))
        go_wp2_with fail
        go_quiet (first | (go_at_call 25; with_reducible exact QD.out _))
        go_wp2
        have s1 : (p : Int) ≤ pm := by have := HPM.out; omega
        have s2 : (pm : Int) ≤ c := by omega
        have s3 : m = pm - p := by have := HPM.out; omega
        rw [s3] at HC
        have hcv := fun q => HC.out q (c - p)
        go_quiet (fail)
        go_wp2
        go_ret
        exact ⟨ret_str HV.out, HE.out _ _⟩
    · have hmn : m = n - p := by omega
      rcases hr.2.1.2.2 with h0 | ⟨b, off, rfl, hb, hcc⟩
      · exact absurd hr.2.2.2.1 (by omega)
      have hend := dgc_end hm (.inl hmn)
      have hall := dgc_all f (n - p) p
      rw [hend] at hall
      have HE : Hid (∀ q r, RdrAt ((wr.drewN q).drewN r) k (some ⟨b, off, none⟩) n c f (p + dgc f p (n - p)) ∧ Away k w ((wr.drewN q).drewN r)) := Lib.hid fun q r => ⟨by rw [hend]; exact (hr.drewN q).drewN r, (haw.trans (Away.drewN k wr q)).trans (Away.drewN k _ r)⟩
      have HC : Hid (∀ q cap, (convert 22 9 (.slice (some ⟨b, off + p, none⟩) m cap)).run Tryz.prog (wr.drewN q) = .ok (.string (str (dtx f p m))) (wr.drewN q)) := Lib.hid fun q cap =>
        digits_conv (wr.drewN q) _ n c f p m cap (hr.drewN q).2.1 (by omega) hall b off rfl
      have HC0 : Hid (∀ q cap, (convert 22 9 (.slice (some ⟨b, off, none⟩) 0 cap)).run Tryz.prog (wr.drewN q) = .ok (.string (str (dtx f p 0))) (wr.drewN q)) := Lib.hid fun q cap =>
        digits_conv (wr.drewN q) _ n c f 0 0 cap (hr.drewN q).2.1 (by omega) (fun j hj => absurd hj (by omega)) b off rfl
      have HV : Hid (str (dtx f p m) = str (dtx f p (dgc f p (n - p)))) := Lib.hid (by rw [hend])
      have hpm : p + m = n := by omega
      rw [hpm] at q1
      by_cases hcp : c = p
      · have hm0 : m = 0 := by omega
        rw [hm0] at HV
        have hnp : n = p := by omega
        generalize str (dtx f p 0) = tx at *
        clear hdl hr haw hm hrel hend hall hmn hpm hrp hcc hlt HC hm0
        subst hcp
        subst hnp
        have d1 : ¬ (n : Int) < n := by omega
        have s1 : (n : Int) ≤ n := by omega
        have hcv := fun q => HC0.out q 0
        go_wp2_with fail
        go_quiet (fail)
        go_wp2
        go_quiet (fail)
        go_wp2
        go_ret
        exact ⟨ret_str HV.out, HE.out _ _⟩
      · generalize str (dtx f p m) = tx at *
        have d1 : ¬ (n : Int) < n := by omega
        have s1 : (p : Int) ≤ n := by omega
        have s2 : (n : Int) ≤ c := by omega
        rw [hmn] at HC
        have hcv := fun q => HC.out q (c - p)
        clear hdl hr haw hm hrel hend hall hmn hpm hrp hcc hlt HC0
        go_wp2_with fail
        go_quiet (fail)
        go_wp2
        go_quiet (fail)
        go_wp2
        go_ret
        exact ⟨ret_str HV.out, HE.out _ _⟩

end Go.Proofs.YtgpcfncolhmgfaaGreatDoor
