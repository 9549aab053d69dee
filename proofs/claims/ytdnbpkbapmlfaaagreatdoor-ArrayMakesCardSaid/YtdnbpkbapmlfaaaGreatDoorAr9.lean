/-
  Package array: Shape, Runes, Len; a plain array in memory.
-/
import Derived.Test.YtdnbpkbapmlfaaaGreatDoorAr8
namespace Go.Proofs.YtdnbpkbapmlfaaaGreatDoor
open Go.RowKit

set_option maxHeartbeats 1600000 in
set_option maxRecDepth 100000 in
theorem cloneI_any (a : Option Addr) (n c : Nat) (f : Nat → Int) (w : World) (h : KRow w .i64 a n c f) (hn : n ≤ 1000000) :
    Calls Tryz.prog 76 #[.slice a n c] w fun e w' => ∃ a' c', e = .returned (.slice a' n c') ∧ KRow w' .i64 a' n c' f ∧ Below w.heap.size w w' := by
  obtain ⟨i0, hi, hz0, hz1, hz2⟩ := info_parts infoI
  have q22 : ∀ (w : World) (a : Option Addr) (n c n' c' : Nat), (binOp .eql 43 (.slice a n c) (.slice none n' c')).run Tryz.prog w = .ok (.bool a.isNone) w := fun w a n c n' c' => Lib.run_eql_slice_nil w _ _ a n c n' c' Tryz.underlying43
  cases a with
  | none =>
    have h0 : n = 0 := by
      rcases h.2.2 with h | ⟨_, _, h, _⟩
      · exact h
      · cases h
    subst h0
    go_enter Tryz.func76, Tryz.ntmps76
    go_wp2
    go_ret
    exact ⟨none, 0, rfl, KRow.nought _ _ _ _ (Nat.zero_le _) _, Below.refl _ _⟩
  | some ad =>
    have hex : ∃ news : List Value, news.length = n * 1 ∧ (∀ j u, news[j]? = some u → w.cell? (ad.add j) = some u) ∧ (∀ u ∈ news, u.oneCell' = true) ∧ ∀ j, j < n → news[j]? = some (.int .i64 (f j)) := by
      rcases h.2.2 with h0 | ⟨b, off, he, hb, hc⟩
      · subst h0
        exact ⟨[], rfl, fun j u hu => by simp at hu, fun u hu => by simp at hu, fun j hj => by omega⟩
      · obtain rfl := Option.some.inj he
        have hg : ∀ j, j < n → ((List.range n).map fun j => Value.int .i64 (f j))[j]? = some (.int .i64 (f j)) := fun j hj => by rw [List.getElem?_map, List.getElem?_range hj]; rfl
        refine ⟨(List.range n).map fun j => .int .i64 (f j), by simp, fun j u hu => ?_, fun u hu => ?_, hg⟩
        · have hj : j < n := by
            have := (List.getElem?_eq_some_iff.1 hu).1
            simpa using this
          rw [hg j hj] at hu
          obtain rfl := Option.some.inj hu
          rw [show (⟨b, off, none⟩ : Addr).add j = ⟨b, off + j, none⟩ by simp [Addr.add]]
          exact hc j hj
        · obtain ⟨j, _, rfl⟩ := List.mem_map.1 hu
          rfl
    obtain ⟨news, hl, hcell, hone, hrat⟩ := hex
    have HC := Lib.hid hcell
    have HO := Lib.hid hone
    have HR := Lib.hid hrat
    have HL := Lib.hid hl
    have HN := Lib.hid hn
    clear hcell hone hrat hl h hn
    go_enter Tryz.func76, Tryz.ntmps76
    go_wp2_with (at_builtin; refine wpList_append_own _ rfl _ _ 43 rfl w.heap.size 3 i0 _ 1 8 Tryz.underlying43 hi hz0 hz1 hz2 rfl (by omega) _ _ _ rfl (World.ownsRow_made w #[] 0 (Nat.le_refl _) (Nat.zero_le _) (by simp)) ad n c news rfl ?qc1 ?qc2 ?qc3 ?qc4 ?qc5 ?qc6 ?_)
    case qc1 => exact HL.out
    case qc2 => exact fun j u hj => Lib.cell?_alloc_some _ (HC.out j u hj)
    case qc3 => exact HO.out
    case qc4 => have := HN.out; unfold maxLen; omega
    case qc5 => have := HN.out; omega
    case qc6 => simp
    intro v' w1 hown hgrow hnil
    have hb : Below w.heap.size w w1 := ((Below.refl _ w).alloc (Nat.le_refl _) _).grown hgrow (by simp) (by intro k hk; simp [Value.ownBlock] at hk; omega)
    have HE : Hid (∃ a' c', v' = .slice a' n c' ∧ KRow w1 .i64 a' n c' f) := by
      rcases hown.2 with ⟨rfl, h0⟩ | ⟨g, cap, cur, rfl, _, hh, h1, h2, _, hcs⟩
      · subst h0
        exact ⟨none, 0, rfl, KRow.nought _ _ _ _ (Nat.zero_le _) _⟩
      · refine ⟨some ⟨g, 0, none⟩, cap, rfl, h1, h2, .inr ⟨g, 0, rfl, Row.lt (t := 3) hh, fun j hj => ?_⟩⟩
        have := hown.cells (g := g) rfl j _ (HR.out j hj)
        rwa [show (⟨g, 0, none⟩ : Addr).add j = ⟨g, 0 + j, none⟩ by unfold Addr.add; split <;> simp_all] at this
    have HB := Lib.hid hb
    clear hown hgrow hnil hb
    go_wp2
    go_ret
    obtain ⟨a', c', rfl, hr⟩ := HE.out
    exact ⟨a', c', rfl, hr, HB.out⟩

/-- A part of a block that is known whole, as a row of integers. -/
theorem KRow.of_box {w : World} {k : Nat} {t : TypeId} {ch : Bool} {f : Nat → Int} {r : Nat} {na : Option Addr} {nn nc : Nat} {ta : Option Addr} {tn tc : Nat} {more : Int} (h : Row w k t (arrC ch more (dm f r) na nn nc ta tn tc)) (hr : r ≤ 8) : KRow w .i64 (some ⟨k, 2, none⟩) r 8 f := by
  refine ⟨hr, by unfold maxLen; omega, .inr ⟨k, 2, rfl, h.lt, fun j hj => ?_⟩⟩
  have hd : dm f r j = f j := by unfold dm; rw [if_pos hj]
  have hc := h.cell (2 + j)
  rw [hc, ← hd]
  have hn : j = 0 ∨ j = 1 ∨ j = 2 ∨ j = 3 ∨ j = 4 ∨ j = 5 ∨ j = 6 ∨ j = 7 := by omega
  rcases hn with rfl | rfl | rfl | rfl | rfl | rfl | rfl | rfl <;> rfl

set_option maxHeartbeats 1600000 in
set_option maxRecDepth 100000 in
theorem shape_any (ch : Bool) (f : Nat → Int) (r : Nat) (na : Option Addr) (nn nc : Nat) (ta : Option Addr) (tn tc : Nat) (w : World) (hr : r ≤ 8) :
    Calls Tryz.prog 26 #[.agg (arrC ch ((r : Int) - 1) (dm f r) na nn nc ta tn tc)] w fun e w' => ∃ a c, e = .returned (.slice a r c) ∧ KRow w' .i64 a r c f ∧ Below w.heap.size w w' := by
  have RK := Lib.hid (fun wz => rank_any ch (dm f r) r na nn nc ta tn tc wz (by omega))
  have CL := Lib.hid (fun a c wz h => cloneI_any a r c f wz h (by omega))
  have BB := Lib.hid ((Bag.start w).newRow (arrC ch ((r : Int) - 1) (dm f r) na nn nc ta tn tc) 50)
  have HR := Lib.hid BB.out.now.1
  have h0 : (0 : Int) ≤ r := by omega
  have h8 : (r : Int) ≤ 8 := by omega
  unfold arrC
  go_enter Tryz.func26, Tryz.ntmps26
  go_wp2_with (refine ld_arr rfl (.tmp 1) rfl w.heap.size rfl HR.out ?_)
  go_at_call 27
  (with_reducible refine (RK.out _).mono ?_)
  rintro e w2 ⟨rfl, hb2⟩
  have BB := Lib.hid (BB.out.go hb2)
  clear hb2
  go_wp2_with fail
  go_at_call 76
  (with_reducible refine (CL.out _ _ _ ?_).mono ?_)
  · exact KRow.of_box BB.out.now.1 hr
  rintro e w3 ⟨a3, c3, rfl, hk3, hb3⟩
  have HE : Hid (KRow w3 .i64 a3 r c3 f ∧ Below w.heap.size w w3) := ⟨hk3, (BB.out.go hb3).below⟩
  clear hk3 hb3
  go_wp2
  go_ret
  exact ⟨a3, c3, rfl, HE.out⟩

set_option maxHeartbeats 1600000 in
set_option maxRecDepth 100000 in
theorem runes_any (ch : Bool) (more : Int) (d : Nat → Int) (na : Option Addr) (nn nc : Nat) (ta : Option Addr) (tn tc : Nat) (g : Nat → Int) (w : World) (h : KRow w .i32 ta tn tc g) (ht : tn ≤ 1000000) :
    Calls Tryz.prog 34 #[.agg (arrC ch more d na nn nc ta tn tc)] w fun e w' => ∃ a c, e = .returned (.slice a tn c) ∧ KRow w' .i32 a tn c g ∧ Below w.heap.size w w' := by
  have CL := Lib.hid (fun wz h => cloneC_any ta tn tc g wz h ht)
  have BB := Lib.hid (((Bag.start w).krow h).newRow (arrC ch more d na nn nc ta tn tc) 50)
  clear h
  unfold arrC at BB
  unfold arrC
  go_enter Tryz.func34, Tryz.ntmps34
  go_wp2_with fail
  go_at_call 77
  (with_reducible refine (CL.out _ BB.out.now.2.1).mono ?_)
  rintro e w3 ⟨a3, c3, rfl, hk3, hb3⟩
  have HE : Hid (KRow w3 .i32 a3 tn c3 g ∧ Below w.heap.size w w3) := ⟨hk3, (BB.out.go hb3).below⟩
  clear hk3 hb3
  go_wp2
  go_ret
  exact ⟨a3, c3, rfl, HE.out⟩

set_option maxHeartbeats 1600000 in
set_option maxRecDepth 100000 in
theorem len_any (ch : Bool) (more : Int) (d : Nat → Int) (na : Option Addr) (nn nc : Nat) (ta : Option Addr) (tn tc : Nat) (w : World) :
    Calls Tryz.prog 28 #[.agg (arrC ch more d na nn nc ta tn tc)] w fun e w' => e = .returned (.int .i64 (if ch then (tn : Int) else (nn : Int))) ∧ Below w.heap.size w w' := by
  have HB : Hid (Below w.heap.size w (w.alloc (.cells (arrC ch more d na nn nc ta tn tc) 50))) := (Below.refl _ _).alloc (Nat.le_refl _) _
  unfold arrC at HB
  unfold arrC
  cases ch
  · rw [if_neg (by decide)]
    go_enter Tryz.func28, Tryz.ntmps28
    go_wp2
    go_ret
    exact ⟨rfl, HB.out⟩
  · rw [if_pos rfl]
    go_enter Tryz.func28, Tryz.ntmps28
    go_wp2
    go_ret
    exact ⟨rfl, HB.out⟩

/-- A row of numbers as digits. -/
def QRow (w : World) (sa : Option Addr) (n c : Nat) (fB : Nat → Bool) (fS fT : Nat → ByteArray) : Prop := n ≤ c ∧ c ≤ maxLen ∧ (n = 0 ∨ ∃ b off, sa = some ⟨b, off, none⟩ ∧ b < w.heap.size ∧
  ∀ j, j < n → w.cell? ⟨b, off + j * 3, none⟩ = some (.bool (fB j)) ∧ w.cell? ⟨b, off + j * 3 + 1, none⟩ = some (.string (fS j)) ∧ w.cell? ⟨b, off + j * 3 + 2, none⟩ = some (.string (fT j)))
theorem QRow.below {w w' : World} {sa : Option Addr} {n c : Nat} {fB : Nat → Bool} {fS fT : Nat → ByteArray} (h : QRow w sa n c fB fS fT) (hb : Below w.heap.size w w') : QRow w' sa n c fB fS fT := by
  obtain ⟨h0, h1, h2⟩ := h
  refine ⟨h0, h1, h2.imp id ?_⟩
  rintro ⟨b, off, rfl, hl, hc⟩
  refine ⟨b, off, rfl, Nat.lt_of_lt_of_le hl hb.size, fun j hj => ?_⟩
  obtain ⟨e1, e2, e3⟩ := hc j hj
  exact ⟨(hb.cell (p := ⟨b, _, none⟩) hl).trans e1, (hb.cell (p := ⟨b, _, none⟩) hl).trans e2, (hb.cell (p := ⟨b, _, none⟩) hl).trans e3⟩
theorem QRow.get {w : World} {sa : Option Addr} {n c : Nat} {fB : Nat → Bool} {fS fT : Nat → ByteArray} (h : QRow w sa n c fB fS fT) {j : Nat} (hj : j < n) :
    ∃ b off, sa = some ⟨b, off, none⟩ ∧ b < w.heap.size ∧ w.cell? ⟨b, off + j * 3, none⟩ = some (.bool (fB j)) ∧ w.cell? ⟨b, off + j * 3 + 1, none⟩ = some (.string (fS j)) ∧ w.cell? ⟨b, off + j * 3 + 2, none⟩ = some (.string (fT j)) := by
  rcases h.2.2 with h2 | ⟨b, off, rfl, hl, hc⟩
  · omega
  · exact ⟨b, off, rfl, hl, hc j hj⟩
theorem QRow.len {w : World} {sa : Option Addr} {n c : Nat} {fB : Nat → Bool} {fS fT : Nat → ByteArray} (h : QRow w sa n c fB fS fT) : n ≤ c ∧ n ≤ 9223372036854775807 := by
  have h1 := h.1
  have h2 := h.2.1
  unfold maxLen at h2
  exact ⟨h1, by omega⟩
theorem QRow.nought (w : World) (a : Option Addr) (c : Nat) (hc : c ≤ maxLen) (fB : Nat → Bool) (fS fT : Nat → ByteArray) : QRow w a 0 c fB fS fT := ⟨Nat.zero_le _, hc, .inl rfl⟩
theorem Bag.qrow {w0 w : World} {B : World → Prop} {a : Option Addr} {n c : Nat} {fB : Nat → Bool} {fS fT : Nat → ByteArray} (h : Bag w0 B w) (q : QRow w a n c fB fS fT) : Bag w0 (fun y => QRow y a n c fB fS fT ∧ B y) w := h.add (fun _ _ hb q => QRow.below q hb) q

/-- The cells of a plain array. -/
def plC (sa : Option Addr) (sn sc : Nat) (ch : Bool) (ta : Option Addr) (tn tc : Nat) (na : Option Addr) (nn nc : Nat) : Array Value := #[.slice sa sn sc, .bool ch, .slice ta tn tc, .slice na nn nc]
/-- Cells that are a plain array: a shape S of r axes, characters or not, tn characters g, nn numbers. -/
def PlnAt (w : World) (cs : Array Value) (S : Nat → Int) (r : Nat) (ch : Bool) (g : Nat → Int) (tn : Nat) (fB : Nat → Bool) (fS fT : Nat → ByteArray) (nn : Nat) : Prop :=
  ∃ sa sc ta tc na nc, cs = plC sa r sc ch ta tn tc na nn nc ∧ KRow w .i64 sa r sc S ∧ KRow w .i32 ta tn tc g ∧ QRow w na nn nc fB fS fT
theorem PlnAt.below {w w' : World} {cs : Array Value} {S : Nat → Int} {r : Nat} {ch : Bool} {g : Nat → Int} {tn : Nat} {fB : Nat → Bool} {fS fT : Nat → ByteArray} {nn : Nat} (h : PlnAt w cs S r ch g tn fB fS fT nn) (hb : Below w.heap.size w w') : PlnAt w' cs S r ch g tn fB fS fT nn := by
  obtain ⟨sa, sc, ta, tc, na, nc, e, h1, h2, h3⟩ := h
  exact ⟨sa, sc, ta, tc, na, nc, e, h1.below hb, h2.below hb, h3.below hb⟩
theorem Bag.pln {w0 w : World} {B : World → Prop} {cs : Array Value} {S : Nat → Int} {r : Nat} {ch : Bool} {g : Nat → Int} {tn : Nat} {fB : Nat → Bool} {fS fT : Nat → ByteArray} {nn : Nat} (h : Bag w0 B w) (q : PlnAt w cs S r ch g tn fB fS fT nn) : Bag w0 (fun y => PlnAt y cs S r ch g tn fB fS fT nn ∧ B y) w := h.add (fun _ _ hb q => PlnAt.below q hb) q

end Go.Proofs.YtdnbpkbapmlfaaaGreatDoor
