/-
  Package array: rats, Of, by contract.
-/
import Derived.Test.YtdnbpkbapmlfaaaGreatDoorAr12
import Derived.Test.YtdnbpkbapmlfaaaGreatDoorRa15
namespace Go.Proofs.YtdnbpkbapmlfaaaGreatDoor
open Go.RowKit

/-- Are the first numbers all as the page speaks of them? -/
def okN (fB : Nat → Bool) (fS fT : Nat → ByteArray) : Nat → Bool
  | 0 => true
  | k + 1 => okN fB fS fT k && ofO (fB k) (fS k) (fT k)
theorem okN_iff {fB : Nat → Bool} {fS fT : Nat → ByteArray} {n : Nat} : okN fB fS fT n = true ↔ ∀ j, j < n → ofO (fB j) (fS j) (fT j) = true := by
  induction n with
  | zero => exact ⟨fun _ j h => absurd h (Nat.not_lt_zero _), fun _ => rfl⟩
  | succ n ih =>
    show (okN fB fS fT n && _) = true ↔ _
    rw [Bool.and_eq_true, ih]
    constructor
    · rintro ⟨h1, h2⟩ j hj
      rcases Nat.lt_or_ge j n with h | h
      · exact h1 j h
      · obtain rfl : j = n := by omega
        exact h2
    · intro h
      exact ⟨fun j hj => h j (by omega), h n (by omega)⟩
/-- Short numbers. -/
def Short (fS fT : Nat → ByteArray) (n : Nat) : Prop := ∀ j, j < n → (fS j).size ≤ 60 ∧ (fT j).size ≤ 60
/-- What rats answers. -/
def RatsTold (b : Bool) (n : Nat) (fP : Nat → Int) (fQ : Nat → Nat) (w w' : World) (e : Ending) : Prop := ∃ a m c, e = .returned (.tuple #[.slice a m c, .bool b]) ∧ (b = true → m = n ∧ RRow w' a n c fP fQ) ∧ Below w.heap.size w w'

set_option maxHeartbeats 1600000 in
set_option maxRecDepth 100000 in
theorem rats_any (a : Option Addr) (n c : Nat) (fB : Nat → Bool) (fS fT : Nat → ByteArray) (w : World) (h : QRow w a n c fB fS fT) (hs : Short fS fT n) (hn : n ≤ 100000) :
    Calls Tryz.prog 72 #[.slice a n c] w fun e w' => RatsTold (okN fB fS fT n) n (fun j => ofP (fB j) (fS j) (fT j)) (fun j => ofQ (fB j) (fS j) (fT j)) w w' e := by
  obtain ⟨i0, hi, hz0, hz1, hz2⟩ := info_parts infoR
  have hmk := fun wz => run_make (P := Tryz.prog) wz 48 30 i0 _ Tryz.underlying48 hi hz0 .i64 .i64 n n (by omega) (by omega) (by rw [hz2]; omega) (by omega)
  simp only [Int.toNat_natCast, hz1] at hmk
  have HK := Lib.hid h
  have HS := Lib.hid hs
  have hl := h.len
  have OF := Lib.hid (fun b s t wz p q => of_any' b s t wz p q)
  unfold RatTold3 at OF
  have H0 : Hid (Below w.heap.size w (w.alloc (.cells (madeCells (Value.cells (.agg #[.slice none 0 0, .bool false, .slice none 0 0])) (n * 3)) 30)) ∧ RatsTo (w.alloc (.cells (madeCells (Value.cells (.agg #[.slice none 0 0, .bool false, .slice none 0 0])) (n * 3)) 30)) w.heap.size n 0 (fun j => ofP (fB j) (fS j) (fT j)) (fun j => ofQ (fB j) (fS j) (fT j)) ∧ okN fB fS fT 0 = true) :=
    ⟨(Below.refl _ _).alloc (Nat.le_refl _) _, RatsTo.made w n 30 _ _ rfl, rfl⟩
  clear h hs hi hz0 hz1 hz2
  go_enter Tryz.func72, Tryz.ntmps72
  go_wp2_with fail
  go_loopw [14] (fun i wr => ∃ k : Nat, k ≤ n ∧ i = .int .i64 k ∧ Hid (Below w.heap.size w wr ∧ RatsTo wr w.heap.size n k (fun j => ofP (fB j) (fS j) (fT j)) (fun j => ofQ (fB j) (fS j) (fT j)) ∧ okN fB fS fT k = true)) (fun i _ => n - (intOf i).toNat)
  case atStart => exact ⟨0, by omega, rfl, H0.out⟩
  case round =>
    obtain ⟨k, hk, rfl, hrel⟩ := hrel
    obtain ⟨hbl, hto, hok⟩ := hrel.out
    by_cases hlt : k < n
    · obtain ⟨b, off, rfl, hb, c1, c2, c3⟩ := (HK.out.below hbl).get hlt
      have BB := Lib.hid (((Bag.start wr).to hto).alloc (.cells #[.bool (fB k), .string (fS k), .string (fT k)] 34))
      have HBL := Lib.hid hbl
      have HOK := Lib.hid hok
      have HSZ := Lib.hid (HS.out k hlt)
      clear hbl hto hok
      cases ho : ofO (fB k) (fS k) (fT k) with
      | false =>
        have hno : okN fB fS fT n = false := by
          cases hx : okN fB fS fT n with
          | false => rfl
          | true => rw [okN_iff.1 hx k hlt] at ho; cases ho
        have HNO := Lib.hid hno
        have O1 := Lib.hid (fun wz => OF.out (fB k) (fS k) (fT k) wz HSZ.out.1 HSZ.out.2)
        simp only [ho, Bool.false_eq_true, if_false] at O1
        clear hno ho
        go_wp2_with fail
        go_at_call 48
        (with_reducible refine (O1.out _).mono ?_)
        rintro e w2 ⟨a2, n2, c2, m2, a3, n3, c3, rfl, hr2, hb2⟩
        have HE : Hid (RatsTold (okN fB fS fT n) n (fun j => ofP (fB j) (fS j) (fT j)) (fun j => ofQ (fB j) (fS j) (fT j)) w (w2.alloc (.cells #[.slice a2 n2 c2, .bool m2, .slice a3 n3 c3] 30)) (.returned (.tuple #[.slice none 0 0, .bool false]))) :=
          ⟨_, _, _, by rw [HNO.out], fun h => (by rw [HNO.out] at h; cases h), HBL.out.trans (((BB.out.go hb2).below.mono HBL.out.size).trans ((Below.refl _ _).alloc (Nat.le_trans HBL.out.size (BB.out.go hb2).below.size) _))⟩
        clear hr2 hb2
        go_wp2
        go_ret2
        exact HE.out
      | true =>
        have O1 := Lib.hid (fun wz => OF.out (fB k) (fS k) (fT k) wz HSZ.out.1 HSZ.out.2)
        simp only [ho, if_true] at O1
        have HO2 : Hid (okN fB fS fT (k + 1) = true) := by show (okN fB fS fT k && _) = true; rw [HOK.out, ho]; rfl
        clear ho
        go_wp2_with fail
        go_at_call 48
        (with_reducible refine (O1.out _).mono ?_)
        rintro e w2 ⟨a2, n2, c2, m2, a3, n3, c3, rfl, hr2, hb2⟩
        have B2 := ((BB.out.go hb2).rat hr2)
        have hto := B2.now.2.1
        have hr3 := B2.now.1
        obtain ⟨⟨b1, l1, d1, v1, b2, l2, d2, x1, x2, x3⟩, y1, y2, y3⟩ := hto.place hlt
        have hbb := HBL.out.trans (B2.below.mono HBL.out.size)
        have HN : Hid (Below w.heap.size w ((((w2.setCell ⟨w.heap.size, k * 3, none⟩ (.slice a2 n2 c2)).setCell ⟨w.heap.size, k * 3 + 1, none⟩ (.bool m2)).setCell ⟨w.heap.size, k * 3 + 2, none⟩ (.slice a3 n3 c3)).alloc (.cells #[.slice a2 n2 c2, .bool m2, .slice a3 n3 c3] 30)) ∧ RatsTo ((((w2.setCell ⟨w.heap.size, k * 3, none⟩ (.slice a2 n2 c2)).setCell ⟨w.heap.size, k * 3 + 1, none⟩ (.bool m2)).setCell ⟨w.heap.size, k * 3 + 2, none⟩ (.slice a3 n3 c3)).alloc (.cells #[.slice a2 n2 c2, .bool m2, .slice a3 n3 c3] 30)) w.heap.size n (k + 1) (fun j => ofP (fB j) (fS j) (fT j)) (fun j => ofQ (fB j) (fS j) (fT j)) ∧ okN fB fS fT (k + 1) = true) :=
          ⟨(((hbb.setCell (p := ⟨w.heap.size, _, none⟩) (Nat.le_refl _) _).setCell (p := ⟨w.heap.size, _, none⟩) (Nat.le_refl _) _).setCell (p := ⟨w.heap.size, _, none⟩) (Nat.le_refl _) _).alloc (by simpa using hbb.size) _, (hto.step hlt hr3).below ((Below.refl _ _).alloc (Nat.le_refl _) _), HO2.out⟩
        have hks : w.heap.size < w2.heap.size := by have := (BB.out.go hb2).now.1; exact this.1
        clear hto hr2 hb2 B2 hbb hr3
        go_wp2
        go_roundw
        case rel => exact ⟨k + 1, by omega, by go_num, HN.out⟩
        case measure => simp [intOf]; omega
    · obtain rfl : k = n := by omega
      have HE : Hid (RatsTold (okN fB fS fT k) k (fun j => ofP (fB j) (fS j) (fT j)) (fun j => ofQ (fB j) (fS j) (fT j)) w wr (.returned (.tuple #[.slice (some ⟨w.heap.size, 0, none⟩) k k, .bool true]))) := by
        rw [hok]
        exact ⟨_, _, _, rfl, fun _ => ⟨rfl, hto.done (by unfold maxLen; omega)⟩, hbl⟩
      clear hbl hto hok
      go_wp2
      go_ret2
      exact HE.out

/-- Cells that are an array, of characters or of numbers. -/
def AArr (w : World) (cs : Array Value) (S : Nat → Int) (r : Nat) (ch : Bool) (g : Nat → Int) (tn : Nat) (fP : Nat → Int) (fQ : Nat → Nat) (nn : Nat) : Prop :=
  ∃ na nc ta tc, cs = arrC ch ((r : Int) - 1) (dm S r) na nn nc ta tn tc ∧ RRow w na nn nc fP fQ ∧ KRow w .i32 ta tn tc g ∧ (ch = false → ta = none ∧ tc = 0) ∧ (ch = true → na = none ∧ nc = 0)
theorem AArr.below {w w' : World} {cs : Array Value} {S : Nat → Int} {r : Nat} {ch : Bool} {g : Nat → Int} {tn : Nat} {fP : Nat → Int} {fQ : Nat → Nat} {nn : Nat} (h : AArr w cs S r ch g tn fP fQ nn) (hb : Below w.heap.size w w') : AArr w' cs S r ch g tn fP fQ nn := by
  obtain ⟨na, nc, ta, tc, e, h1, h2, h3⟩ := h
  exact ⟨na, nc, ta, tc, e, h1.below hb, h2.below hb, h3⟩
theorem AArr.put {w : World} {cs : Array Value} {S : Nat → Int} {r : Nat} {ch : Bool} {g : Nat → Int} {tn : Nat} {fP : Nat → Int} {fQ : Nat → Nat} {nn : Nat} (h : AArr w cs S r ch g tn fP fQ nn) {k : Nat} {t : TypeId} {c1 : Bool} {more : Int} {d : Nat → Int} {na : Option Addr} {n1 nc : Nat} {ta : Option Addr} {t1 tc : Nat} (hr : Row w k t (arrC c1 more d na n1 nc ta t1 tc)) (cs' : Array Value) : AArr (w.setRow k cs') cs S r ch g tn fP fQ nn := by
  obtain ⟨na, nc, ta, tc, e, h1, h2, h3⟩ := h
  exact ⟨na, nc, ta, tc, e, h1.away (Row.noLimb hr) (RRow.ne h1 hr) (Far.setRow _ _ _), h2.away (KRow.ne h2 (by decide) hr) (Far.setRow _ _ _), h3⟩
/-- Is it an array? -/
def ofB (S : Nat → Int) (r : Nat) (ch : Bool) (tn : Nat) (fB : Nat → Bool) (fS fT : Nat → ByteArray) (nn : Nat) : Bool :=
  if ch then decide (nn = 0) && (shB S r && decide (itm S r = tn)) else decide (tn = 0) && (okN fB fS fT nn && (shB S r && decide (itm S r = nn)))
/-- What Of answers. -/
def OfTold (b : Bool) (S : Nat → Int) (r : Nat) (ch : Bool) (g : Nat → Int) (tn : Nat) (fP : Nat → Int) (fQ : Nat → Nat) (nn : Nat) (w w' : World) (e : Ending) : Prop :=
  ∃ cs, e = .returned (.tuple #[.agg cs, .bool b]) ∧ (if b then AArr w' cs S r ch g tn fP fQ nn else cs = zerC) ∧ Below w.heap.size w w'
theorem numF {b : Bool} {w : World} {cs : Array Value} {f : Nat → Int} {r n : Nat} {fP : Nat → Int} {fQ : Nat → Nat} (h : if b then NumArr w cs f r n fP fQ else cs = zerC) :
    ∃ more d na nn nc, cs = arrC false more d na nn nc none 0 0 ∧ (if b then AArr w cs f r false (fun _ => 0) 0 fP fQ n else cs = zerC) := by
  cases b with
  | true =>
    rw [if_pos rfl] at h
    obtain ⟨na, nc, e, h2⟩ := h
    exact ⟨_, _, na, n, nc, e, by rw [if_pos rfl]; exact ⟨na, nc, none, 0, e, h2, KRow.nought _ _ _ _ (Nat.zero_le _) _, fun _ => ⟨rfl, rfl⟩, fun h => by cases h⟩⟩
  | false =>
    rw [if_neg (by decide)] at h
    exact ⟨_, _, none, 0, 0, h, by rw [if_neg (by decide)]; exact h⟩
theorem chrF {b : Bool} {w : World} {cs : Array Value} {f : Nat → Int} {r n : Nat} {g : Nat → Int} (h : if b then ChrArr w cs f r n g else cs = zerC) (fP : Nat → Int) (fQ : Nat → Nat) :
    ∃ ch more d ta tn tc, cs = arrC ch more d none 0 0 ta tn tc ∧ (if b then AArr w cs f r true g n fP fQ 0 else cs = zerC) := by
  cases b with
  | true =>
    rw [if_pos rfl] at h
    obtain ⟨na, nc, e, h2⟩ := h
    exact ⟨true, _, _, na, n, nc, e, by rw [if_pos rfl]; exact ⟨none, 0, na, nc, e, RRow.nought _ _ _ (Nat.zero_le _) _ _, h2, fun h => (by cases h), fun _ => ⟨rfl, rfl⟩⟩⟩
  | false =>
    rw [if_neg (by decide)] at h
    exact ⟨false, _, _, none, 0, 0, h, by rw [if_neg (by decide)]; exact h⟩
theorem AArr.txt {w : World} {cs : Array Value} {S : Nat → Int} {r : Nat} {ch : Bool} {g : Nat → Int} {fP : Nat → Int} {fQ : Nat → Nat} {nn : Nat} (h : AArr w cs S r ch g 0 fP fQ nn) (g' : Nat → Int) : AArr w cs S r ch g' 0 fP fQ nn := by
  obtain ⟨na, nc, ta, tc, e, h1, h2, h3⟩ := h
  exact ⟨na, nc, ta, tc, e, h1, ⟨h2.1, h2.2.1, .inl rfl⟩, h3⟩

theorem zerC_eq : zerC = arrC false 0 (fun _ => 0) none 0 0 none 0 0 := rfl
theorem ofT_put {b : Bool} {S : Nat → Int} {r : Nat} {ch : Bool} {g : Nat → Int} {tn : Nat} {fP : Nat → Int} {fQ : Nat → Nat} {nn : Nat} {w w3 : World} {cs : Array Value} (h : if b then AArr w3 cs S r ch g tn fP fQ nn else cs = zerC) (hb : Below w.heap.size w w3) {k : Nat} {t : TypeId} {c1 : Bool} {more : Int} {d : Nat → Int} {na : Option Addr} {n1 nc : Nat} {ta : Option Addr} {t1 tc : Nat} (hr : Row w3 k t (arrC c1 more d na n1 nc ta t1 tc)) (hk : w.heap.size ≤ k) :
    OfTold b S r ch g tn fP fQ nn w (w3.setRow k cs) (.returned (.tuple #[.agg cs, .bool b])) := by
  refine ⟨cs, rfl, ?_, below_put hb hk _⟩
  cases b with
  | true => rw [if_pos rfl] at h ⊢; exact h.put hr cs
  | false => rw [if_neg (by decide)] at h ⊢; exact h
theorem ofT_put' {b : Bool} {S : Nat → Int} {r : Nat} {ch : Bool} {g : Nat → Int} (g' : Nat → Int) {fP : Nat → Int} {fQ : Nat → Nat} {nn : Nat} {w w3 : World} {cs : Array Value} (h : if b then AArr w3 cs S r ch g 0 fP fQ nn else cs = zerC) (hb : Below w.heap.size w w3) {k : Nat} {t : TypeId} {c1 : Bool} {more : Int} {d : Nat → Int} {na : Option Addr} {n1 nc : Nat} {ta : Option Addr} {t1 tc : Nat} (hr : Row w3 k t (arrC c1 more d na n1 nc ta t1 tc)) (hk : w.heap.size ≤ k) :
    OfTold b S r ch g' 0 fP fQ nn w (w3.setRow k cs) (.returned (.tuple #[.agg cs, .bool b])) := by
  refine ofT_put ?_ hb hr hk
  cases b with
  | true => rw [if_pos rfl] at h ⊢; exact h.txt _
  | false => rw [if_neg (by decide)] at h ⊢; exact h
theorem ofT_none (S : Nat → Int) (r : Nat) (ch : Bool) (g : Nat → Int) (tn : Nat) (fP : Nat → Int) (fQ : Nat → Nat) (nn : Nat) {w w3 : World} (hb : Below w.heap.size w w3) : OfTold false S r ch g tn fP fQ nn w w3 (.returned (.tuple #[.agg zerC, .bool false])) :=
  ⟨_, rfl, by rw [if_neg (by decide)], hb⟩
theorem ofT_nput (S : Nat → Int) (r : Nat) (ch : Bool) (g : Nat → Int) (tn : Nat) (fP : Nat → Int) (fQ : Nat → Nat) (nn : Nat) {w w3 : World} (hb : Below w.heap.size w w3) {k : Nat} {t : TypeId} {c1 : Bool} {more : Int} {d : Nat → Int} {na : Option Addr} {n1 nc : Nat} {ta : Option Addr} {t1 tc : Nat} (_ : Row w3 k t (arrC c1 more d na n1 nc ta t1 tc)) (hk : w.heap.size ≤ k) : OfTold false S r ch g tn fP fQ nn w (w3.setRow k zerC) (.returned (.tuple #[.agg zerC, .bool false])) :=
  ⟨_, rfl, by rw [if_neg (by decide)], below_put hb hk _⟩

set_option maxHeartbeats 3200000 in
set_option maxRecDepth 100000 in
theorem of6_any (cs : Array Value) (S : Nat → Int) (r : Nat) (ch : Bool) (g : Nat → Int) (tn : Nat) (fB : Nat → Bool) (fS fT : Nat → ByteArray) (nn : Nat) (w : World) (h : PlnAt w cs S r ch g tn fB fS fT nn) (hS : In64 S r) (hs : Short fS fT nn) (hn : nn ≤ 100000) (htn : tn ≤ 100000) :
    Calls Tryz.prog 18 #[.agg cs] w fun e w' => OfTold (ofB S r ch tn fB fS fT nn) S r ch g tn (fun j => ofP (fB j) (fS j) (fT j)) (fun j => ofQ (fB j) (fS j) (fT j)) nn w w' e := by
  obtain ⟨sa, sc, ta, tc, na, nc, rfl, h1, h2, h3⟩ := h
  have hl1 := h1.len
  have hl2 := h2.len
  have hl3 := h3.len
  have BB := Lib.hid (((((Bag.start w).krow h1).krow h2).qrow h3).newRow (plC sa r sc ch ta tn tc na nn nc) 46 |>.newRow zerC 50)
  simp only [World.size_alloc] at BB
  unfold plC at BB
  unfold plC
  cases ch with
  | true =>
    have e0 : ofB S r true tn fB fS fT nn = (decide (nn = 0) && (shB S r && decide (itm S r = tn))) := by unfold ofB; rw [if_pos rfl]
    rw [e0]
    by_cases h0 : nn = 0
    · subst h0
      rw [decide_eq_true rfl, Bool.true_and]
      have CH := Lib.hid (fun wz p q => chars_any sa r sc S ta tn tc g wz p hS q (by omega))
      unfold CharsTold at CH
      generalize (shB S r && decide (itm S r = (tn : Int))) = b at *
      clear h1 h2 h3 hS hs e0
      go_enter Tryz.func18, Tryz.ntmps18
      go_wp2_with fail
      go_at_call 71
      (with_reducible refine (CH.out _ ?_ ?_).mono ?_)
      · exact BB.out.now.2.2.2.2.1
      · exact BB.out.now.2.2.2.1
      rintro e w3 ⟨cs3, rfl, hc3, hb3⟩
      obtain ⟨c4, more4, d4, ta4, tn4, tc4, rfl, hc4⟩ := chrF hc3 (fun j => ofP (fB j) (fS j) (fT j)) (fun j => ofQ (fB j) (fS j) (fT j))
      have B3 := BB.out.go hb3
      have HZ := Lib.hid B3.now.1
      have HE := Lib.hid (ofT_put (k := w.heap.size + 1) hc4 B3.below (zerC_eq ▸ B3.now.1) (Nat.le_succ _))
      clear hb3 hc3 hc4 B3
      unfold arrC
      go_wp2_with (refine st_arr rfl (.tmp 2) (.tmp 18) rfl (w.heap.size + 1) rfl _ _ _ _ _ _ _ _ _ rfl HZ.out rfl ?_)
      exact bodyPost_ret (res_arr2 Tryz.results18 rfl rfl (HZ.out.put _) rfl) rfl HE.out
    · rw [decide_eq_false h0, Bool.false_and]
      have dn : (0 : Int) < nn := by omega
      have HE := Lib.hid (ofT_none S r true g tn (fun j => ofP (fB j) (fS j) (fT j)) (fun j => ofQ (fB j) (fS j) (fT j)) nn BB.out.below)
      have HZ := Lib.hid BB.out.now.1
      clear h1 h2 h3 hS hs e0 h0
      unfold zerC arrC at HE HZ
      go_enter Tryz.func18, Tryz.ntmps18
      go_wp2
      exact bodyPost_ret (res_arr2 Tryz.results18 rfl rfl HZ.out rfl) rfl HE.out
  | false =>
    have e0 : ofB S r false tn fB fS fT nn = (decide (tn = 0) && (okN fB fS fT nn && (shB S r && decide (itm S r = nn)))) := by unfold ofB; rw [if_neg (by decide)]
    rw [e0]
    by_cases h0 : tn = 0
    · subst h0
      rw [decide_eq_true rfl, Bool.true_and]
      have RT := Lib.hid (fun wz p => rats_any na nn nc fB fS fT wz p hs hn)
      unfold RatsTold at RT
      have NU := Lib.hid (fun la lc wz p q => nums_any sa r sc S la nn lc (fun j => ofP (fB j) (fS j) (fT j)) (fun j => ofQ (fB j) (fS j) (fT j)) wz p hS q (by omega))
      unfold NumsTold at NU
      generalize (shB S r && decide (itm S r = (nn : Int))) = b at *
      clear h1 h2 h3 hS hs e0
      cases ho : okN fB fS fT nn with
      | false =>
        rw [Bool.false_and]
        rw [ho] at RT
        clear ho
        go_enter Tryz.func18, Tryz.ntmps18
        go_wp2_with fail
        go_at_call 72
        (with_reducible refine (RT.out _ ?_).mono ?_)
        · exact BB.out.now.2.2.1
        rintro e w3 ⟨a3, m3, c3, rfl, _, hb3⟩
        have B3 := BB.out.go hb3
        have HE := Lib.hid (ofT_nput (k := w.heap.size + 1) S r false g 0 (fun j => ofP (fB j) (fS j) (fT j)) (fun j => ofQ (fB j) (fS j) (fT j)) nn B3.below (zerC_eq ▸ B3.now.1) (Nat.le_succ _))
        have HZ := Lib.hid B3.now.1
        clear hb3 B3
        go_wp2_with (refine st_arr rfl (.tmp 2) (.tmp 33) rfl (w.heap.size + 1) rfl false 0 (fun _ => 0) none 0 0 none 0 0 rfl HZ.out rfl ?_)
        exact bodyPost_ret (res_arr2 Tryz.results18 rfl rfl (HZ.out.put _) rfl) rfl HE.out
      | true =>
        rw [Bool.true_and]
        rw [ho] at RT
        clear ho
        go_enter Tryz.func18, Tryz.ntmps18
        go_wp2_with fail
        go_at_call 72
        (with_reducible refine (RT.out _ ?_).mono ?_)
        · exact BB.out.now.2.2.1
        rintro e w3 ⟨a3, m3, c3, rfl, hr, hb3⟩
        obtain ⟨rfl, hr3⟩ := hr trivial
        have BB := Lib.hid ((BB.out.go hb3).rrow hr3)
        obtain ⟨q0, q1, q2, q3⟩ := pl_cells BB.out.now.2.2.1
        clear hb3 hr hr3
        go_wp2_with fail
        go_at_call 73
        (with_reducible refine (NU.out _ _ _ ?_ ?_).mono ?_)
        · exact BB.out.now.2.2.2.2.2.1
        · exact BB.out.now.1
        rintro e w4 ⟨cs3, rfl, hc3, hb4⟩
        obtain ⟨more4, d4, na4, nn4, nc4, rfl, hc4⟩ := numF hc3
        have B3 := BB.out.go hb4
        have HZ := Lib.hid B3.now.2.1
        have HE := Lib.hid (ofT_put' (k := w.heap.size + 1) g hc4 B3.below (zerC_eq ▸ B3.now.2.1) (Nat.le_succ _))
        clear hb4 hc3 hc4 B3
        unfold arrC
        go_wp2_with (refine st_arr rfl (.tmp 2) (.tmp 38) rfl (w.heap.size + 1) rfl _ _ _ _ _ _ _ _ _ rfl HZ.out rfl ?_)
        exact bodyPost_ret (res_arr2 Tryz.results18 rfl rfl (HZ.out.put _) rfl) rfl HE.out
    · rw [decide_eq_false h0, Bool.false_and]
      have dn : (0 : Int) < tn := by omega
      have HE := Lib.hid (ofT_none S r false g tn (fun j => ofP (fB j) (fS j) (fT j)) (fun j => ofQ (fB j) (fS j) (fT j)) nn BB.out.below)
      have HZ := Lib.hid BB.out.now.1
      clear h1 h2 h3 hS hs e0 h0
      unfold zerC arrC at HE HZ
      go_enter Tryz.func18, Tryz.ntmps18
      go_wp2
      exact bodyPost_ret (res_arr2 Tryz.results18 rfl rfl HZ.out rfl) rfl HE.out

end Go.Proofs.YtdnbpkbapmlfaaaGreatDoor
