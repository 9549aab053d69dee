/-
  Package deci: firstDigits, by contract.
-/
import Derived.Test.YtgpcfncolhmgfaaGreatDoorDe3
import Derived.Test.YtgpcfncolhmgfaaGreatDoorInv
import Derived.Lib.AppendZeros
namespace Go.Proofs.YtgpcfncolhmgfaaGreatDoor
open Go.RowKit
attribute [local go_sem ↓] Go.wp_at_zero Go.wp_at_succ

theorem divMod_told (v u : Value) (N M : Nat) (w : World) (h : NatIs w v N) (g : NatIs w u M) (hM : 0 < M) (k : Nat) (hk : k ≤ 900000) (hN : N < 4294967296 ^ k) :
    Calls Tryz.prog 63 #[v, u] w fun e w' => ∃ a n c b m l, e = .returned (.tuple #[.agg #[.slice a n c], .agg #[.slice b m l], .bool true]) ∧ NatIs w' (.agg #[.slice a n c]) (N / M) ∧ NatIs w' (.agg #[.slice b m l]) (N % M) ∧ Below w.heap.size w w' := by
  refine (divMod_any v u N M w h g k hk hN).mono ?_
  rintro e w' ⟨v', u', rfl, h1, h2, hb⟩
  rw [show decide (M ≠ 0) = true from decide_eq_true (by omega)]
  rw [show modz N M = N % M by unfold modz; rw [if_neg (by omega)]] at h2
  obtain ⟨a, n, c, f, rfl, h3⟩ := h1
  obtain ⟨b, m, l, f', rfl, h4⟩ := h2
  exact ⟨a, n, c, b, m, l, rfl, ⟨a, n, c, f, rfl, h3⟩, ⟨b, m, l, f', rfl, h4⟩, hb⟩

theorem Row8.len {w : World} {base n : Nat} {V : Value} {l : List UInt8} (h : Row8 w base V n l) : l.length = n := by have := h.1.1; simpa [bcs] using this
theorem Row8.slice {w : World} {base n : Nat} {V : Value} {l : List UInt8} (h : Row8 w base V n l) : ∃ a c, V = .slice a n c := by
  rcases h.1.2 with ⟨rfl, rfl⟩ | ⟨g, cap, cur, rfl, _⟩
  · exact ⟨_, _, rfl⟩
  · exact ⟨_, _, rfl⟩
theorem Row8.string {w : World} {base n : Nat} {a : Option Addr} {c : Nat} {l : List UInt8} (h : Row8 w base (.slice a n c) n l) (hn : 0 < n) : (convert 87 9 (.slice a n c)).run Tryz.prog w = .ok (.string (str l)) w := by
  have hl := h.len
  rcases h.1.2 with ⟨e, rfl⟩ | ⟨g, cap, cur, e, _⟩
  · omega
  · cases e
    subst hl
    refine run_convert_bytes_back w 87 9 5 ⟨g, 0, none⟩ c l Tryz.underlying87 Tryz.underlying5 Tryz.underlying9 (fun j hj => ?_)
    exact h.1.cells (g := g) rfl j _ (by simp [bcs, List.getElem?_eq_getElem hj])

/-- The first digits, when no more are wanted or nothing is left. -/
theorem fd_dl {T B : Nat} (hB : 0 < B) (hTB : T < B) (hBT : B ≤ 10 * T) {j : Nat} (hj : 1 ≤ j) : dl (gN T B j) = j := by
  obtain ⟨i, rfl⟩ : ∃ i, j = i + 1 := ⟨j - 1, by omega⟩
  have h1 := g_ge (k := i + 1) hB hBT (by omega)
  rw [Nat.add_sub_cancel] at h1
  exact dl_eq h1 (g_lt hTB _)
theorem fd_lo {T B : Nat} (hB : 0 < B) (hTB : T < B) (hBT : B ≤ 10 * T) {j many : Nat} (hj : 1 ≤ j) (hm : j ≤ many) (he : j = many ∨ gR T B j = 0) (h2 : 2 * gR T B j < B) :
    zd (mM T B many) = Go.Lib.trimRightB (sdig (gN T B j) j) 48 ∧ dl (mM T B many) = many := by
  have hd := fd_dl hB hTB hBT hj
  have hpos : 0 < gN T B j := Nat.lt_of_lt_of_le (Nat.pow_pos (by omega)) (g_ge hB hBT hj)
  have hz : zd (gN T B j) = Go.Lib.trimRightB (sdig (gN T B j) j) 48 := by unfold zd dec; rw [hd]
  rcases he with rfl | h0
  · rw [mM_full hB, if_pos h2, Nat.add_zero]
    exact ⟨hz, hd⟩
  · rw [mM_early hB hm h0, zd_times hpos, dl_times hpos, hd]
    exact ⟨hz, by omega⟩
theorem fd_hi {T B : Nat} (hB : 0 < B) (hTB : T < B) (hBT : B ≤ 10 * T) {many : Nat} (hj : 1 ≤ many) (h2 : ¬ 2 * gR T B many < B) (E : Int) :
    zd (mM T B many) = ruD (gN T B many) many ∧ E + (dl (mM T B many) : Int) - (many : Int) = ruE (gN T B many) many E := by
  rw [mM_full hB, if_neg h2]
  have h1 := g_lt hTB many
  have h3 := g_ge hB hBT hj
  unfold ruD ruE
  by_cases h4 : gN T B many + 1 = 10 ^ many
  · rw [if_pos h4, if_pos h4, h4, zd_ten]
    have := dl_times (N := 1) (by omega) many
    rw [Nat.one_mul] at this
    have h1' : dl 1 = 1 := by unfold dl; rfl
    exact ⟨rfl, by omega⟩
  · rw [if_neg h4, if_neg h4]
    obtain ⟨i, rfl⟩ : ∃ i, many = i + 1 := ⟨many - 1, by omega⟩
    have hd : dl (gN T B (i + 1) + 1) = i + 1 := dl_eq (by rw [Nat.add_sub_cancel] at h3; omega) (by omega)
    refine ⟨by unfold zd dec; rw [hd], by omega⟩

/-- Within the loop: what is left in its variable, what it is divided by, the digits. -/
structure FDI (w wr : World) (W8 base : Nat) (b : Option Addr) (k l : Nat) (T B : Nat) (V : Value) (j : Nat) : Prop where
  below : Below w.heap.size w wr
  rest : ∃ a n c, Slot wr W8 (.slice a n c) ∧ NatIs wr (.agg #[.slice a n c]) (gR T B j)
  s4 : Slot wr (w.heap.size + 1) (.slice b k l)
  bot : NatIs wr (.agg #[.slice b k l]) B
  row : Row8 wr base V j (sdig (gN T B j) j)
  base : base ≤ wr.heap.size

/-- What is kept within the loop's drawn region. -/
abbrev FDP (w : World) (W8 W12 base : Nat) (b : Option Addr) (k l : Nat) (B : Nat) (a2 : Option Addr) (n2 c2 R : Nat) (V : Value) (j : Nat) (L : List UInt8) (f : Nat → Bool) (y : World) : Prop :=
  (f 11 = false → Slot y W8 (.slice a2 n2 c2)) ∧ (∃ x0 y0 z0, Slot y W8 (.slice x0 y0 z0)) ∧ (∃ x0 y0 z0, Slot y W12 (.slice x0 y0 z0)) ∧ Slot y (w.heap.size + 1) (.slice b k l) ∧ NatIs y (.agg #[.slice a2 n2 c2]) R ∧ NatIs y (.agg #[.slice b k l]) B ∧ Row8 y base V j L
theorem FDP.below {w : World} {W8 W12 base : Nat} {b : Option Addr} {k l B : Nat} {a2 : Option Addr} {n2 c2 R : Nat} {V : Value} {j : Nat} {L : List UInt8} {f : Nat → Bool} (y y' : World) (hb : Below y.heap.size y y') (h : FDP w W8 W12 base b k l B a2 n2 c2 R V j L f y) : FDP w W8 W12 base b k l B a2 n2 c2 R V j L f y' := by
  obtain ⟨h1, ⟨x0, y0, z0, h2⟩, ⟨x1, y1, z1, h3⟩, h4, h5, h6, h7⟩ := h
  exact ⟨fun e => (h1 e).below hb, ⟨x0, y0, z0, h2.below hb⟩, ⟨x1, y1, z1, h3.below hb⟩, h4.below hb, h5.below hb, h6.below hb, h7.below hb⟩
theorem FDP.set12 {w : World} {W8 W12 base : Nat} {b : Option Addr} {k l B : Nat} {a2 : Option Addr} {n2 c2 R : Nat} {V : Value} {j : Nat} {L : List UInt8} {f : Nat → Bool} {y : World} (h : Bag w (FDP w W8 W12 base b k l B a2 n2 c2 R V j L f) y)
    {x0 : Option Addr} {y0 z0 : Nat} (s : Slot y W12 (.slice x0 y0 z0)) (h8 : W8 < W12) (hw : w.heap.size + 1 < W12) (hV : V.ownBlock ≠ some W12) (a n c) : Bag w (FDP w W8 W12 base b k l B a2 n2 c2 R V j L (upd f 10)) (y.setCell ⟨W12, 0, none⟩ (.slice a n c)) := by
  obtain ⟨h1, ⟨x1, y1, z1, h2⟩, _, h4, h5, h6, h7⟩ := h.now
  exact ⟨h.below.setCell (p := ⟨W12, 0, none⟩) (show w.heap.size ≤ W12 by omega) _, fun _ _ hb q => FDP.below _ _ hb q,
    fun e => (h1 e).seto (by omega) _, ⟨x1, y1, z1, h2.seto (by omega) _⟩, ⟨a, n, c, s.set0 _⟩, h4.seto (by omega) _, h5.store s.cell (fun _ _ h => by cases h) _, h6.store s.cell (fun _ _ h => by cases h) _, h7.away hV _⟩
theorem FDP.set8 {w : World} {W8 W12 base : Nat} {b : Option Addr} {k l B : Nat} {a2 : Option Addr} {n2 c2 R : Nat} {V : Value} {j : Nat} {L : List UInt8} {f : Nat → Bool} {y : World} (h : Bag w (FDP w W8 W12 base b k l B a2 n2 c2 R V j L f) y)
    {x0 : Option Addr} {y0 z0 : Nat} (s : Slot y W8 (.slice x0 y0 z0)) (h8 : W8 < W12) (hw : w.heap.size + 1 < W8) (hV : V.ownBlock ≠ some W8) (a n c) : Bag w (FDP w W8 W12 base b k l B a2 n2 c2 R V j L (upd f 11)) (y.setCell ⟨W8, 0, none⟩ (.slice a n c)) := by
  obtain ⟨h1, _, ⟨x1, y1, z1, h3⟩, h4, h5, h6, h7⟩ := h.now
  exact ⟨h.below.setCell (p := ⟨W8, 0, none⟩) (show w.heap.size ≤ W8 by omega) _, fun _ _ hb q => FDP.below _ _ hb q,
    fun e => by simp [upd] at e, ⟨a, n, c, s.set0 _⟩, ⟨x1, y1, z1, h3.seto (by omega) _⟩, h4.seto (by omega) _, h5.store s.cell (fun _ _ h => by cases h) _, h6.store s.cell (fun _ _ h => by cases h) _, h7.away hV _⟩

set_option linter.unusedSimpArgs false in
set_option maxHeartbeats 12800000 in
set_option maxRecDepth 100000 in
theorem firstDigits_any (a : Option Addr) (n c : Nat) (b : Option Addr) (k l : Nat) (P Q many : Nat) (w : World) (h : NatIs w (.agg #[.slice a n c]) P) (g : NatIs w (.agg #[.slice b k l]) Q) (hP0 : 0 < P) (hQ0 : 0 < Q)
    (K0 : Nat) (hK : K0 ≤ 1000) (hK2 : 200 ≤ K0) (hP : P < 4294967296 ^ K0) (hQ : Q < 4294967296 ^ K0) (hd : dl P ≤ 1500) (hd' : dl Q ≤ 1500) (hm1 : 1 ≤ many) (hm2 : many ≤ 1000) :
    Calls Tryz.prog 31 #[.agg #[.slice a n c], .agg #[.slice b k l], .int .i64 many] w fun x w' => x = .returned (.tuple #[.string (str (zd (mM (sT P Q) (sB P Q) many))), .int .i64 (sE P Q + (dl (mM (sT P Q) (sB P Q) many) : Int) - (many : Int))]) ∧ Below w.heap.size w w' := by
  obtain ⟨hT0, hB0, hTB, hBT⟩ := s_spec hP0 hQ0
  have hEb : sE P Q ≤ 1501 ∧ -1502 ≤ sE P Q := by
    unfold sE e0
    split <;> omega
  obtain ⟨K, hKd⟩ : ∃ K, K = K0 + K0 + (K0 + K0) := ⟨_, rfl⟩
  have hBK : sB P Q < 4294967296 ^ K := by
    have h1 : sB0 P Q < 4294967296 ^ (K0 + K0) := mul_ltD hQ (ten_lt _ K0 (by unfold e0; omega) (by omega))
    have h2 := mul_ltD h1 (ten_lt 1 (K0 + K0) (by omega) (by omega))
    have h3 : sB P Q ≤ sB0 P Q * 10 ^ 1 := by unfold sB; split <;> omega
    rw [hKd]; omega
  have SC := Lib.hid (fun wz (h : NatIs wz (.agg #[.slice a n c]) P) (g : NatIs wz (.agg #[.slice b k l]) Q) => scaled_any a n c b k l P Q wz h g K0 hK hK2 hP hQ hd hd')
  have B0 := ((((Bag.start w).nat g).nat h).box (.slice a n c) 26).box (.slice b k l) 26
  simp only [World.size_alloc] at B0
  have BB := Lib.hid B0
  unfold Scaled at SC
  generalize sT P Q = T at *
  generalize sB P Q = B at *
  generalize sE P Q = E at *
  have HF : Hid (0 < B ∧ T < B ∧ B ≤ 10 * T) := ⟨hB0, hTB, hBT⟩
  have HRB := Lib.hid (fun j => Nat.mod_lt (T * 10 ^ j) hB0)
  have HRK : Hid (∀ j, gR T B j < 4294967296 ^ K) := fun j => Nat.lt_trans (HRB.out j) hBK
  have HBK := Lib.hid hBK
  have HT0 : Hid (gR T B 0 = T ∧ gN T B 0 = 0 ∧ 0 < T) := ⟨(g_zero hTB).2, (g_zero hTB).1, hT0⟩
  have hK4 : K ≤ 4000 ∧ 800 ≤ K := by omega
  clear hT0 hB0 hTB hBT hBK hKd hP hQ hd hd' h g B0 hK hK2 hP0 hQ0
  have q0 := BB.out.now.2.1.cell
  have q1 := BB.out.now.1.cell
  go_enter Tryz.func31, Tryz.ntmps31
  go_wp2_with fail
  go_at_call 62
  refine (SC.out _ BB.out.now.2.2.1 BB.out.now.2.2.2.1).mono ?_
  rintro x w2 ⟨a1, n1, c1, b1, k1, l1, rfl, hn1, hm1', hb2⟩
  obtain ⟨W8, hW8⟩ : ∃ W8, w2.heap.size = W8 := ⟨_, rfl⟩
  have hlt8 : w.heap.size + 1 < W8 := by have := hb2.size; simp only [World.size_alloc] at this; omega
  have BB := Lib.hid (((BB.out.go hb2).nat hm1').nat hn1)
  clear hb2 hn1 hm1' q0 q1 SC
  have s4 := BB.out.now.2.2.1
  have H0 : FDI w ((w2.setCell ⟨w.heap.size + 1, 0, none⟩ (.slice b1 k1 l1)).alloc (.cells #[.slice a1 n1 c1] 26)) W8 (W8 + 1) b1 k1 l1 T B (.slice none 0 0) 0 := by
    have hy : (w2.setCell ⟨w.heap.size + 1, 0, none⟩ (.slice b1 k1 l1)).heap.size = W8 := by simpa using hW8
    have hbl : Below w.heap.size w (w2.setCell ⟨w.heap.size + 1, 0, none⟩ (.slice b1 k1 l1)) := BB.out.below.setCell (p := ⟨w.heap.size + 1, 0, none⟩) (show w.heap.size ≤ w.heap.size + 1 by omega) _
    have u4 := s4.set0 (Value.slice b1 k1 l1)
    have m1 := BB.out.now.1.store s4.cell (fun _ _ h => by cases h) (.slice b1 k1 l1)
    have m2 := BB.out.now.2.1.store s4.cell (fun _ _ h => by cases h) (.slice b1 k1 l1)
    generalize w2.setCell ⟨w.heap.size + 1, 0, none⟩ (.slice b1 k1 l1) = y at *
    have hb : Below y.heap.size y (y.alloc (.cells #[.slice a1 n1 c1] 26)) := (Below.refl _ _).alloc (Nat.le_refl _) _
    have s8 := Slot.new y (.slice a1 n1 c1) 26
    rw [hy] at s8
    refine ⟨hbl.trans (hb.mono hbl.size), ⟨a1, n1, c1, s8, ?_⟩, u4.below hb, m2.below hb, ?_, by rw [World.size_alloc]; omega⟩
    · rw [HT0.out.1]; exact m1.below hb
    · exact Row8.nil _ _
  have H0 := Lib.hid H0
  have c4 := s4.cell
  have f4 := s4.free
  clear s4
  obtain ⟨base, hbase⟩ : ∃ base, W8 + 1 = base := ⟨_, rfl⟩
  rw [hbase] at H0
  go_wp2_with fail
  go_loopw [10] (fun D wr => ∃ (j : Nat) (V : Value), j ≤ many ∧ V = D ∧ FDI w wr W8 base b1 k1 l1 T B V j) (fun D _ => many - lenOf D)
  case atStart => exact ⟨0, _, by omega, rfl, H0.out⟩
  case round =>
    obtain ⟨j, V, hj, rfl, hr⟩ := hrel
    obtain ⟨a2, n2, c2, h8, hR⟩ := hr.rest
    obtain ⟨ra, rc, rfl⟩ := hr.row.slice
    have HR := Lib.hid hr
    have HS8 := Lib.hid h8
    have HRN := Lib.hid hR
    have HS4 := Lib.hid hr.s4
    have HBOT := Lib.hid hr.bot
    have HROW := Lib.hid hr.row
    have HBL := Lib.hid hr.below
    have hbs := hr.base
    have q8 := h8.cell
    clear hr h8 hR
    by_cases hlt : j < many
    · have d1 : decide ((j : Int) < (many : Int)) = true := decide_eq_true (by omega)
      have ZR := Lib.hid (zero_any (.agg #[.slice a2 n2 c2]) (gR T B j) wr HRN.out)
      go_wp2_with fail
      go_at_call 38
      refine ZR.out.mono ?_
      rintro x wC ⟨rfl, hbC⟩
      have HS8 := Lib.hid (HS8.out.below hbC)
      have HRN := Lib.hid (HRN.out.below hbC)
      have HS4 := Lib.hid (HS4.out.below hbC)
      have HBOT := Lib.hid (HBOT.out.below hbC)
      have HROW := Lib.hid (HROW.out.below hbC)
      have HBL := Lib.hid (HBL.out.trans (hbC.mono HBL.out.size))
      have hbs : base ≤ wC.heap.size := Nat.le_trans hbs hbC.size
      have q8 := HS8.out.cell
      clear hbC ZR HR
      by_cases hz : gR T B j = 0
      · rw [decide_eq_true hz]
        have hpos : 1 ≤ j := (by rcases Nat.eq_zero_or_pos j with h0 | h0; (rw [h0, HT0.out.1] at hz; have := HT0.out.2.2; omega); exact h0)
        have CMc := cmpI_neg (gR T B j + gR T B j) B
        have AD := Lib.hid (fun wz (h : NatIs wz (.agg #[.slice a2 n2 c2]) (gR T B j)) => (add_any (.agg #[.slice a2 n2 c2]) (.agg #[.slice a2 n2 c2]) (gR T B j) (gR T B j) wz h h K (by omega) (HRK.out j) (HRK.out j)).mono fun e w' ho => NatOut.told ho)
        have CM := Lib.hid (fun v wz h g => cmp_any v (.agg #[.slice b1 k1 l1]) (gR T B j + gR T B j) B wz h g)
        have BB : Bag w (fun _ => True) wC := ⟨HBL.out, fun _ _ _ _ => trivial, trivial⟩
        have BB := Lib.hid ((((BB.add (fun _ _ hb q => Row8.below q hb) HROW.out).nat HBOT.out).nat HRN.out).slot HS4.out |>.slot HS8.out)
        have BB := Lib.hid BB.out.drew
        generalize hcj : cmpI (gR T B j + gR T B j) B = ci at *
        unfold NatTold at AD
        go_wp2_with fail
        go_region_held3 (fun y => y.cell? ⟨W8, 0, none⟩ = some (.slice a2 n2 c2) ∧ y.cell? ⟨w.heap.size + 1, 0, none⟩ = some (.slice b1 k1 l1))
          (exact ⟨BB.out.now.1.cell, BB.out.now.2.1.cell⟩)
          (first
            | (go_at_call 65; (with_reducible refine (AD.out _ BB.out.now.2.2.1).mono ?_); rintro x w7 ⟨a7, n7, c7, rfl, hn7, hb7⟩; have BB := Lib.hid (BB.out.go hb7))
            | (go_at_call 66; (with_reducible refine (CM.out _ _ hn7 BB.out.now.2.2.2.1).mono ?_); rintro x w8 ⟨rfl, hb8⟩; have BB := Lib.hid (BB.out.go hb8)))
        have hrow := BB.out.now.2.2.2.2.1
        have hcv := hrow.string (by omega)
        have hlw := BB.out.below
        have h2 : 2 * gR T B j < B := by rw [hz]; have := HF.out.1; omega
        obtain ⟨e1, e2⟩ := fd_lo HF.out.1 HF.out.2.1 HF.out.2.2 hpos hj (.inr hz) h2
        have TR := Lib.hid (fun wz => Tryz.strings_TrimRight_one (str (sdig (gN T B j) j)) 48 (by decide) wz (by rw [str_size, sdig_length]; omega))
        rw [str_toList, ← e1] at TR
        have HM : Hid (.tuple #[.string (str (zd (mM T B many))), .int .i64 (E + (dl (mM T B many) : Int) - (many : Int))] = Value.tuple #[.string (str (zd (mM T B many))), .int .i64 E]) := by
          show _ = _
          rw [e2, show E + (many : Int) - (many : Int) = E by omega]
        have hcd : decide (ci < 0) = true := CMc.trans (decide_eq_true (by omega))
        clear e1 e2 CMc hcj
        generalize str (sdig (gN T B j) j) = s0 at *
        go_wp2_with fail
        go_at_call 67
        refine (TR.out _).mono ?_
        rintro x w9 ⟨rfl, rfl⟩
        clear hcv
        go_wp2
        exact bodyPost_ret (v := .tuple #[.string (str (zd (mM T B many))), .int .i64 E]) (by simp [results, Tryz.results31, go_sem]; rfl) rfl ⟨by rw [HM.out], hlw⟩
      · rw [decide_eq_false hz]
        obtain ⟨m, hm⟩ : ∃ m : Nat, min (18 : Int) ((many : Int) - (j : Int)) = (m : Int) := ⟨(min (18 : Int) ((many : Int) - (j : Int))).toNat, by omega⟩
        have hmb : 1 ≤ m ∧ m ≤ 18 ∧ j + m ≤ many := by omega
        obtain ⟨g1, g2, g3⟩ := g_step (T := T) HF.out.1 j m
        have T10 := Lib.hid (fun wz => tenTo_any m wz (by omega) (by omega))
        rw [Int.toNat_natCast] at T10
        have l10 := ten_lt m K (by omega) (by omega)
        have hlg := ten_lt 18 K (by omega) (by omega)
        have hRk := HRK.out j
        have HROW2 := HROW.out
        obtain ⟨R, hRe⟩ : ∃ R, gR T B j = R := ⟨_, rfl⟩
        obtain ⟨LL, hLL⟩ : ∃ LL, sdig (gN T B j) j = LL := ⟨_, rfl⟩
        rw [hRe] at HRN hRk g1 g2 g3
        rw [hLL] at HROW HROW2
        obtain ⟨X, hX⟩ : ∃ X, 10 ^ m = X := ⟨_, rfl⟩
        rw [hX] at T10 l10 g1 g2 g3
        have MU := Lib.hid (fun u wz (h : NatIs wz (.agg #[.slice a2 n2 c2]) R) (g : NatIs wz u X) => (mul_any (.agg #[.slice a2 n2 c2]) u R X wz h g K (by omega) hRk l10).mono fun e w' ho => NatOut.told ho)
        have l11 := mul_ltD hRk l10
        have DM := Lib.hid (fun v wz h g => divMod_told v (.agg #[.slice b1 k1 l1]) (R * X) B wz h g HF.out.1 (K + K) (by omega) l11)
        obtain ⟨G, hG⟩ : ∃ G, R * X / B = G := ⟨_, rfl⟩
        obtain ⟨R2, hR2⟩ : ∃ R2, R * X % B = R2 := ⟨_, rfl⟩
        rw [hG, hR2] at DM
        rw [hG] at g1 g3
        rw [hR2] at g2
        have hGK : G < 4294967296 ^ K := Nat.lt_of_lt_of_le g3 (Nat.le_of_lt l10)
        have TX := Lib.hid (fun v wz hz => text_any v G wz hz K (by omega) hGK)
        have HG : Hid (gN T B (j + m) = gN T B j * X + G ∧ gR T B (j + m) = R2 ∧ G < X ∧ X = 10 ^ m ∧ sdig (gN T B j) j = LL) := ⟨g1, g2, g3, hX.symm, hLL⟩
        have hdl := dl_le G m (by omega) (by rw [hX]; exact g3)
        unfold NatTold at T10 MU
        clear g1 g2 g3 l10 l11 hlg hRk hRe hLL hX hG hR2 hGK
        generalize R * X = Y at *
        have hne8 : (Value.slice ra j rc).ownBlock ≠ some W8 := fun e => by have := (HROW2.lt e).1; omega
        have hneC : (Value.slice ra j rc).ownBlock ≠ some wC.heap.size := fun e => by have := (HROW2.lt e).2; omega
        have h8C : W8 < wC.heap.size := HS8.out.lt
        have BB0 : Bag w (FDP w W8 wC.heap.size base b1 k1 l1 B a2 n2 c2 R (.slice ra j rc) j LL (fun _ => false)) (wC.alloc (.cells #[.slice none 0 0] 26)) :=
          have hb : Below wC.heap.size wC (wC.alloc (.cells #[.slice none 0 0] 26)) := (Below.refl _ _).alloc (Nat.le_refl _) _
          ⟨HBL.out.trans (hb.mono HBL.out.size), fun _ _ hb q => FDP.below _ _ hb q, fun _ => HS8.out.below hb, ⟨_, _, _, HS8.out.below hb⟩, ⟨_, _, _, Slot.new wC _ _⟩, HS4.out.below hb, HRN.out.below hb, HBOT.out.below hb, HROW2.below hb⟩
        have BB := Lib.hid BB0
        have HP10 := Lib.hid (fun f y (h : Bag w (FDP w W8 wC.heap.size base b1 k1 l1 B a2 n2 c2 R (.slice ra j rc) j LL f) y) x0 y0 z0 (s : Slot y wC.heap.size (.slice x0 y0 z0)) a n c => FDP.set12 h s h8C (by omega) hneC a n c)
        have HP11 := Lib.hid (fun f y (h : Bag w (FDP w W8 wC.heap.size base b1 k1 l1 B a2 n2 c2 R (.slice ra j rc) j LL f) y) x0 y0 z0 (s : Slot y W8 (.slice x0 y0 z0)) a n c => FDP.set8 h s h8C (by omega) hne8 a n c)
        clear BB0 HROW2 hneC hne8
        go_wp2_with fail
        refine wp_region_inv4 ⟨(fun j => ([[36], [37], [38], [39], [40], [41], [35], [42], [43], [44], [], []] : List (List Nat)).getD j []), (fun j => ([[], [], [1], [0, 1, 2], [], [0, 1, 2, 3, 4], [0, 1, 2, 3, 4, 5], [0, 1, 2, 3, 4, 5, 6], [0, 1, 2, 3, 4, 5, 6], [0, 1, 2, 3, 4, 5, 6], [0, 1, 2, 3, 4, 5, 6, 7], [0, 1, 2, 3, 4, 5, 6, 7, 8, 10]] : List (List Nat)).getD j []), []⟩ (fun jj vv yy => match jj with | 0 => vv = [some (.agg #[.slice a2 n2 c2])] | 1 => vv = [some (.int .i64 (m : Int))] | 2 => ∃ (x102 : Option Addr), ∃ (n102 : Nat), ∃ (c102 : Nat), vv = [some (.agg #[.slice x102 n102 c102])] ∧ NatIs yy (.agg #[.slice x102 n102 c102]) X | 3 => ∃ (x103 : Option Addr), ∃ (n103 : Nat), ∃ (c103 : Nat), vv = [some (.agg #[.slice x103 n103 c103])] ∧ NatIs yy (.agg #[.slice x103 n103 c103]) Y | 4 => vv = [some (.agg #[.slice b1 k1 l1])] | 5 => ∃ (x105 : Option Addr), ∃ (n105 : Nat), ∃ (c105 : Nat), ∃ (x106 : Option Addr), ∃ (n106 : Nat), ∃ (c106 : Nat), vv = [some (.tuple #[.agg #[.slice x105 n105 c105], .agg #[.slice x106 n106 c106], .bool true])] ∧ NatIs yy (.agg #[.slice x105 n105 c105]) G ∧ NatIs yy (.agg #[.slice x106 n106 c106]) R2 | 6 => ∃ (x105 : Option Addr), ∃ (n105 : Nat), ∃ (c105 : Nat), ∃ (x106 : Option Addr), ∃ (n106 : Nat), ∃ (c106 : Nat), vv = [some (.tuple #[.agg #[.slice x105 n105 c105], .agg #[.slice x106 n106 c106], .bool true])] ∧ NatIs yy (.agg #[.slice x105 n105 c105]) G ∧ NatIs yy (.agg #[.slice x106 n106 c106]) R2 | 7 => ∃ (x105 : Option Addr), ∃ (n105 : Nat), ∃ (c105 : Nat), vv = [some (.agg #[.slice x105 n105 c105])] ∧ NatIs yy (.agg #[.slice x105 n105 c105]) G | 8 => ∃ (x106 : Option Addr), ∃ (n106 : Nat), ∃ (c106 : Nat), vv = [some (.agg #[.slice x106 n106 c106])] ∧ NatIs yy (.agg #[.slice x106 n106 c106]) R2 | 9 => vv = [some (.bool true)] | 10 => ∃ (x105 : Option Addr), ∃ (n105 : Nat), ∃ (c105 : Nat), Slot yy (wC.heap.size) (.slice x105 n105 c105) ∧ NatIs yy (.agg #[.slice x105 n105 c105]) G | 11 => ∃ (x106 : Option Addr), ∃ (n106 : Nat), ∃ (c106 : Nat), Slot yy (W8) (.slice x106 n106 c106) ∧ NatIs yy (.agg #[.slice x106 n106 c106]) R2 | _ => True) (fun f => Bag w (FDP w W8 wC.heap.size base b1 k1 l1 B a2 n2 c2 R (.slice ra j rc) j LL f)) (by kernel_rfl) (by kernel_rfl) (by kernel_rfl) BB.out.drew ?_ ?_ ?_
        · intro jj vv yw yw2 hb h
          match jj, h with
          | 0, h => exact h
          | 1, h => exact h
          | 2, ⟨x102, n102, c102, e2, g2_0⟩ => exact Exists.intro x102 (Exists.intro n102 (Exists.intro c102 (And.intro e2 (g2_0.below hb))))
          | 3, ⟨x103, n103, c103, e3, g3_0⟩ => exact Exists.intro x103 (Exists.intro n103 (Exists.intro c103 (And.intro e3 (g3_0.below hb))))
          | 4, h => exact h
          | 5, ⟨x105, n105, c105, x106, n106, c106, e5, g5_0, g5_1⟩ => exact Exists.intro x105 (Exists.intro n105 (Exists.intro c105 (Exists.intro x106 (Exists.intro n106 (Exists.intro c106 (And.intro e5 (And.intro (g5_0.below hb) (g5_1.below hb))))))))
          | 6, ⟨x105, n105, c105, x106, n106, c106, e6, g6_0, g6_1⟩ => exact Exists.intro x105 (Exists.intro n105 (Exists.intro c105 (Exists.intro x106 (Exists.intro n106 (Exists.intro c106 (And.intro e6 (And.intro (g6_0.below hb) (g6_1.below hb))))))))
          | 7, ⟨x105, n105, c105, e7, g7_0⟩ => exact Exists.intro x105 (Exists.intro n105 (Exists.intro c105 (And.intro e7 (g7_0.below hb))))
          | 8, ⟨x106, n106, c106, e8, g8_0⟩ => exact Exists.intro x106 (Exists.intro n106 (Exists.intro c106 (And.intro e8 (g8_0.below hb))))
          | 9, h => exact h
          | 10, ⟨x105, n105, c105, g10_0, g10_1⟩ => exact Exists.intro x105 (Exists.intro n105 (Exists.intro c105 (And.intro (g10_0.below hb) (g10_1.below hb))))
          | 11, ⟨x106, n106, c106, g11_0, g11_1⟩ => exact Exists.intro x106 (Exists.intro n106 (Exists.intro c106 (And.intro (g11_0.below hb) (g11_1.below hb))))
          | _ + 12, h => exact h
        · intro ac yw hsz hdf hold hB hp
          obtain ⟨x105, n105, c105, s12, hnG⟩ := hp 10 (by decide)
          obtain ⟨x106, n106, c106, s8, hnR⟩ := hp 11 (by decide)
          have t0 : ac.tmps[0]? = some (.agg #[.slice a n c]) := hold 0 (by kernel_rfl)
          have t1 : ac.tmps[1]? = some (.agg #[.slice b k l]) := hold 1 (by kernel_rfl)
          have t3 : ac.tmps[3]? = some (.pointer (some ⟨w.heap.size, 0, none⟩)) := hold 3 (by kernel_rfl)
          have t5 : ac.tmps[5]? = some (undef) := hold 5 (by kernel_rfl)
          have t6 : ac.tmps[6]? = some (.string ⟨#[]⟩) := hold 6 (by kernel_rfl)
          have t7 : ac.tmps[7]? = some (.int .i64 0) := hold 7 (by kernel_rfl)
          have t14 : ac.tmps[14]? = some (.tuple #[.agg #[.slice a1 n1 c1], .agg #[.slice b1 k1 l1], .int .i64 E]) := hold 14 (by kernel_rfl)
          have t15 : ac.tmps[15]? = some (.agg #[.slice a n c]) := hold 15 (by kernel_rfl)
          have t16 : ac.tmps[16]? = some (.agg #[.slice b k l]) := hold 16 (by kernel_rfl)
          have t17 : ac.tmps[17]? = some (.tuple #[.agg #[.slice a1 n1 c1], .agg #[.slice b1 k1 l1], .int .i64 E]) := hold 17 (by kernel_rfl)
          have t18 : ac.tmps[18]? = some (.agg #[.slice a1 n1 c1]) := hold 18 (by kernel_rfl)
          have t19 : ac.tmps[19]? = some (.agg #[.slice b1 k1 l1]) := hold 19 (by kernel_rfl)
          have t20 : ac.tmps[20]? = some (.int .i64 E) := hold 20 (by kernel_rfl)
          have t57 : ac.tmps[57]? = some (undef) := hold 57 (by kernel_rfl)
          have t58 : ac.tmps[58]? = some (undef) := hold 58 (by kernel_rfl)
          have t59 : ac.tmps[59]? = some (undef) := hold 59 (by kernel_rfl)
          have t60 : ac.tmps[60]? = some (undef) := hold 60 (by kernel_rfl)
          have t61 : ac.tmps[61]? = some (undef) := hold 61 (by kernel_rfl)
          have t62 : ac.tmps[62]? = some (undef) := hold 62 (by kernel_rfl)
          have t63 : ac.tmps[63]? = some (undef) := hold 63 (by kernel_rfl)
          have t64 : ac.tmps[64]? = some (undef) := hold 64 (by kernel_rfl)
          have t65 : ac.tmps[65]? = some (undef) := hold 65 (by kernel_rfl)
          have t66 : ac.tmps[66]? = some (undef) := hold 66 (by kernel_rfl)
          have t67 : ac.tmps[67]? = some (undef) := hold 67 (by kernel_rfl)
          have t68 : ac.tmps[68]? = some (undef) := hold 68 (by kernel_rfl)
          have t69 : ac.tmps[69]? = some (undef) := hold 69 (by kernel_rfl)
          have t70 : ac.tmps[70]? = some (undef) := hold 70 (by kernel_rfl)
          have t71 : ac.tmps[71]? = some (undef) := hold 71 (by kernel_rfl)
          have t72 : ac.tmps[72]? = some (undef) := hold 72 (by kernel_rfl)
          have t2 : ac.tmps[2]? = some (.int .i64 (many : Int)) := hold 2 (by kernel_rfl)
          have t4 : ac.tmps[4]? = some (.pointer (some ⟨w.heap.size + 1, 0, none⟩)) := hold 4 (by kernel_rfl)
          have t8 : ac.tmps[8]? = some (.pointer (some ⟨W8, 0, none⟩)) := hold 8 (by kernel_rfl)
          have t9 : ac.tmps[9]? = some (.int .i64 E) := hold 9 (by kernel_rfl)
          have t10 : ac.tmps[10]? = some (.slice ra j rc) := hold 10 (by kernel_rfl)
          have t11 : ac.tmps[11]? = some (.int .i64 (m : Int)) := hold 11 (by kernel_rfl)
          have t12 : ac.tmps[12]? = some (.pointer (some ⟨wC.heap.size, 0, none⟩)) := hold 12 (by kernel_rfl)
          clear hold hp
          obtain ⟨TV, hTV⟩ : ∃ TV : Nat → Value, ∀ i, (ac.tmps[i]?).getD undef = TV i := ⟨_, fun _ => rfl⟩
          have f0 := (hTV 0).symm.trans (congrArg (fun x => Option.getD x undef) t0)
          have f1 := (hTV 1).symm.trans (congrArg (fun x => Option.getD x undef) t1)
          have f2 := (hTV 2).symm.trans (congrArg (fun x => Option.getD x undef) t2)
          have f3 := (hTV 3).symm.trans (congrArg (fun x => Option.getD x undef) t3)
          have f4 := (hTV 4).symm.trans (congrArg (fun x => Option.getD x undef) t4)
          have f5 := (hTV 5).symm.trans (congrArg (fun x => Option.getD x undef) t5)
          have f6 := (hTV 6).symm.trans (congrArg (fun x => Option.getD x undef) t6)
          have f7 := (hTV 7).symm.trans (congrArg (fun x => Option.getD x undef) t7)
          have f8 := (hTV 8).symm.trans (congrArg (fun x => Option.getD x undef) t8)
          have f9 := (hTV 9).symm.trans (congrArg (fun x => Option.getD x undef) t9)
          have f10 := (hTV 10).symm.trans (congrArg (fun x => Option.getD x undef) t10)
          have f11 := (hTV 11).symm.trans (congrArg (fun x => Option.getD x undef) t11)
          have f12 := (hTV 12).symm.trans (congrArg (fun x => Option.getD x undef) t12)
          have f14 := (hTV 14).symm.trans (congrArg (fun x => Option.getD x undef) t14)
          have f15 := (hTV 15).symm.trans (congrArg (fun x => Option.getD x undef) t15)
          have f16 := (hTV 16).symm.trans (congrArg (fun x => Option.getD x undef) t16)
          have f17 := (hTV 17).symm.trans (congrArg (fun x => Option.getD x undef) t17)
          have f18 := (hTV 18).symm.trans (congrArg (fun x => Option.getD x undef) t18)
          have f19 := (hTV 19).symm.trans (congrArg (fun x => Option.getD x undef) t19)
          have f20 := (hTV 20).symm.trans (congrArg (fun x => Option.getD x undef) t20)
          have f57 := (hTV 57).symm.trans (congrArg (fun x => Option.getD x undef) t57)
          have f58 := (hTV 58).symm.trans (congrArg (fun x => Option.getD x undef) t58)
          have f59 := (hTV 59).symm.trans (congrArg (fun x => Option.getD x undef) t59)
          have f60 := (hTV 60).symm.trans (congrArg (fun x => Option.getD x undef) t60)
          have f61 := (hTV 61).symm.trans (congrArg (fun x => Option.getD x undef) t61)
          have f62 := (hTV 62).symm.trans (congrArg (fun x => Option.getD x undef) t62)
          have f63 := (hTV 63).symm.trans (congrArg (fun x => Option.getD x undef) t63)
          have f64 := (hTV 64).symm.trans (congrArg (fun x => Option.getD x undef) t64)
          have f65 := (hTV 65).symm.trans (congrArg (fun x => Option.getD x undef) t65)
          have f66 := (hTV 66).symm.trans (congrArg (fun x => Option.getD x undef) t66)
          have f67 := (hTV 67).symm.trans (congrArg (fun x => Option.getD x undef) t67)
          have f68 := (hTV 68).symm.trans (congrArg (fun x => Option.getD x undef) t68)
          have f69 := (hTV 69).symm.trans (congrArg (fun x => Option.getD x undef) t69)
          have f70 := (hTV 70).symm.trans (congrArg (fun x => Option.getD x undef) t70)
          have f71 := (hTV 71).symm.trans (congrArg (fun x => Option.getD x undef) t71)
          have f72 := (hTV 72).symm.trans (congrArg (fun x => Option.getD x undef) t72)
          have hac := act_eq (n := 73) hsz TV hTV
          rw [show ((List.range 73).map TV).toArray = #[TV 0, TV 1, TV 2, TV 3, TV 4, TV 5, TV 6, TV 7, TV 8, TV 9, TV 10, TV 11, TV 12, TV 13, TV 14, TV 15, TV 16, TV 17, TV 18, TV 19, TV 20, TV 21, TV 22, TV 23, TV 24, TV 25, TV 26, TV 27, TV 28, TV 29, TV 30, TV 31, TV 32, TV 33, TV 34, TV 35, TV 36, TV 37, TV 38, TV 39, TV 40, TV 41, TV 42, TV 43, TV 44, TV 45, TV 46, TV 47, TV 48, TV 49, TV 50, TV 51, TV 52, TV 53, TV 54, TV 55, TV 56, TV 57, TV 58, TV 59, TV 60, TV 61, TV 62, TV 63, TV 64, TV 65, TV 66, TV 67, TV 68, TV 69, TV 70, TV 71, TV 72] from rfl, f0, f1, f2, f3, f4, f5, f6, f7, f8, f9, f10, f11, f12, f14, f15, f16, f17, f18, f19, f20, f57, f58, f59, f60, f61, f62, f63, f64, f65, f66, f67, f68, f69, f70, f71, f72, hdf] at hac
          simp only [Option.getD_some] at hac
          subst hac
          clear hTV f0 f1 f2 f3 f4 f5 f6 f7 f8 f9 f10 f11 f12 f14 f15 f16 f17 f18 f19 f20 f57 f58 f59 f60 f61 f62 f63 f64 f65 f66 f67 f68 f69 f70 f71 f72
          have BB : Bag w (fun _ => True) yw := ⟨hB.below, fun _ _ _ _ => trivial, trivial⟩
          have BB := Lib.hid ((((((BB.add (fun _ _ hb q => Row8.below q hb) hB.now.2.2.2.2.2.2).nat hnG).nat hnR).nat hB.now.2.2.2.2.2.1).slot hB.now.2.2.2.1).slot s8 |>.slot s12)
          clear hB s12 s8 hnG hnR HP10 HP11 T10 MU DM t0 t1 t2 t3 t4 t5 t6 t7 t8 t9 t10 t11 t12 t14 t15 t16 t17 t18 t19 t20 t57 t58 t59 t60 t61 t62 t63 t64 t65 t66 t67 t68 t69 t70 t71 t72
          have q12 := BB.out.now.1.cell
          go_wp2_with fail
          go_at_call 28
          refine (TX.out _ _ BB.out.now.2.2.2.2.2.1).mono ?_
          rintro x w5 ⟨rfl, hb5⟩
          have BB := Lib.hid (BB.out.go hb5)
          clear hb5 q12
          have hzG := size_dlD G
          obtain ⟨r, hr⟩ : ∃ r, m - dl G = r := ⟨_, rfl⟩
          have i1 : (m : Int) - (dl G : Int) = (r : Int) := by omega
          have RP := Lib.hid (fun wz => rep_any r wz (by omega))
          go_wp2_with fail
          go_at_call 64
          refine (RP.out _).mono ?_
          rintro x w6 ⟨rfl, hb6⟩
          have BB := Lib.hid (BB.out.go hb6)
          clear hb6
          have hb66 : base ≤ w6.heap.size := by have := (BB.out.now.1).lt; omega
          obtain ⟨V7, w7, hr7, hrow7, hg7⟩ := (BB.out.now.2.2.2.2.2.2.1).append 87 (List.replicate r 48) (by rw [List.length_replicate]; omega) hb66
          have BB7 : Bag w (fun _ => True) w7 := ⟨(BB.out.now.2.2.2.2.2.2.1).belowBase hg7 BB.out.below (by omega) (by omega), fun _ _ _ _ => trivial, trivial⟩
          have BB := Lib.hid ((((((BB7.add (fun _ _ hb q => Row8.below q hb) hrow7).nat ((BB.out.now.2.2.2.2.2.2.1).nat hg7 BB.out.now.2.2.2.2.2.1)).nat ((BB.out.now.2.2.2.2.2.2.1).nat hg7 BB.out.now.2.2.2.2.1)).nat ((BB.out.now.2.2.2.2.2.2.1).nat hg7 BB.out.now.2.2.2.1)).slot ((BB.out.now.2.2.2.2.2.2.1).slot hg7 BB.out.now.2.2.1 (fun z e => by cases e))).slot ((BB.out.now.2.2.2.2.2.2.1).slot hg7 BB.out.now.2.1 (fun z e => by cases e)) |>.slot ((BB.out.now.2.2.2.2.2.2.1).slot hg7 BB.out.now.1 (fun z e => by cases e)))
          clear BB7 hrow7 hg7
          have hb77 : base ≤ w7.heap.size := by have := (BB.out.now.1).lt; omega
          obtain ⟨V8, w8, hr8, hrow8, hg8⟩ := (BB.out.now.2.2.2.2.2.2.1).append 87 (dec G) (by rw [List.length_replicate]; have := size_dlD G; rw [str_size] at this; omega) hb77
          have hend : FDI w w8 W8 base b1 k1 l1 T B V8 (j + m) := by
            have hx : j + (List.replicate r (48 : UInt8)).length + (dec G).length = j + m := by
              rw [List.length_replicate]; have := size_dlD G; rw [str_size] at this; omega
            have hy : LL ++ List.replicate r 48 ++ dec G = sdig (gN T B (j + m)) (j + m) := by
              rw [HG.out.1, HG.out.2.2.2.1, sdig_app _ _ (by rw [← HG.out.2.2.2.1]; exact HG.out.2.2.1), HG.out.2.2.2.2, List.append_assoc, ← hr, sdig_pad (by omega) (by rw [← HG.out.2.2.2.1]; exact HG.out.2.2.1)]
            rw [hx, hy] at hrow8
            refine ⟨(BB.out.now.2.2.2.2.2.2.1).belowBase hg8 BB.out.below (by omega) (by omega), ⟨x106, n106, c106, (BB.out.now.2.2.2.2.2.2.1).slot hg8 BB.out.now.2.1 (fun z e => by cases e), ?_⟩, (BB.out.now.2.2.2.2.2.2.1).slot hg8 BB.out.now.2.2.1 (fun z e => by cases e), (BB.out.now.2.2.2.2.2.2.1).nat hg8 BB.out.now.2.2.2.1, hrow8, Nat.le_trans hb77 hg8.size⟩
            rw [HG.out.2.1]; exact (BB.out.now.2.2.2.2.2.2.1).nat hg8 BB.out.now.2.2.2.2.1
          have HEND := Lib.hid hend
          clear hend hrow8 hg8
          have HR7 := Lib.hid hr7
          have HR8 := Lib.hid hr8
          clear hr7 hr8
          go_wp2_with (at_builtin; first | refine Lib.wpList_append_run _ rfl _ _ _ _ rfl _ _ rfl rfl _ _ HR7.out ?_ | refine Lib.wpList_append_run _ rfl _ _ _ _ rfl _ _ rfl rfl _ _ HR8.out ?_)
          go_roundw
          case rel =>
            exact ⟨j + m, V8, by omega, rfl, HEND.out⟩
          case measure =>
            obtain ⟨a9, c9, rfl⟩ := HEND.out.row.slice
            simp [lenOf]; omega
        refine Stps4.cons (o := _) ?_ ?_
        · intro f ac yw hsz hold hB hp hf K hK
          have t8 : ac.tmps[8]? = some (.pointer (some ⟨W8, 0, none⟩)) := hold 8 (by kernel_rfl)
          have v0 := (hB.now.1 (hf 11 (by decide))).cell
          have v1 := hB.now.2.2.2.1.cell
          clear hold hp hsz hf
          go_simp
          exact hK.out _ _ ⟨hB, rfl, Nat.le_refl _, .inl (Below.refl _ _), fun h => absurd h (by decide)⟩
        refine Stps4.cons (o := _) ?_ ?_
        · intro f ac yw hsz hold hB hp hf K hK
          have t11 : ac.tmps[11]? = some (.int .i64 (m : Int)) := hold 11 (by kernel_rfl)
          clear hold hp hsz hf
          go_simp
          exact hK.out _ _ ⟨hB, rfl, Nat.le_refl _, .inl (Below.refl _ _), fun h => absurd h (by decide)⟩
        refine Stps4.cons (o := _) ?_ ?_
        · intro f ac yw hsz hold hB hp hf K hK
          have e1 := hp 1 (by decide)
          have t37 : ac.tmps[37]? = some (.int .i64 (m : Int)) := (List.cons.inj e1).1
          clear hold hp hsz hf e1
          go_simp
          (go_at_call 47; (with_reducible refine (T10.out _).mono ?_); rintro e wz ⟨x102, n102, c102, rfl, h2_0, hbz⟩)
          exact hK.out _ _ ⟨hB.go hbz, Exists.intro x102 (Exists.intro n102 (Exists.intro c102 (And.intro rfl h2_0))), hbz.size, .inl hbz, fun h => absurd h (by decide)⟩
        refine Stps4.cons (o := _) ?_ ?_
        · intro f ac yw hsz hold hB hp hf K hK
          have e0 := hp 0 (by decide)
          have t36 : ac.tmps[36]? = some (.agg #[.slice a2 n2 c2]) := (List.cons.inj e0).1
          obtain ⟨x102_2, n102_2, c102_2, e2, g2_0⟩ := hp 2 (by decide)
          have t38 : ac.tmps[38]? = some (.agg #[.slice x102_2 n102_2 c102_2]) := (List.cons.inj e2).1
          clear hold hp hsz hf e0 e2
          go_simp
          (go_at_call 46; (with_reducible refine (MU.out _ _ hB.now.2.2.2.2.1 g2_0).mono ?_); rintro e wz ⟨x103, n103, c103, rfl, h3_0, hbz⟩)
          exact hK.out _ _ ⟨hB.go hbz, Exists.intro x103 (Exists.intro n103 (Exists.intro c103 (And.intro rfl h3_0))), hbz.size, .inl hbz, fun h => absurd h (by decide)⟩
        refine Stps4.cons (o := _) ?_ ?_
        · intro f ac yw hsz hold hB hp hf K hK
          have t4 : ac.tmps[4]? = some (.pointer (some ⟨w.heap.size + 1, 0, none⟩)) := hold 4 (by kernel_rfl)
          have v0 := (hB.now.1 (hf 11 (by decide))).cell
          have v1 := hB.now.2.2.2.1.cell
          clear hold hp hsz hf
          go_simp
          exact hK.out _ _ ⟨hB, rfl, Nat.le_refl _, .inl (Below.refl _ _), fun h => absurd h (by decide)⟩
        refine Stps4.cons (o := _) ?_ ?_
        · intro f ac yw hsz hold hB hp hf K hK
          obtain ⟨x103_3, n103_3, c103_3, e3, g3_0⟩ := hp 3 (by decide)
          have t39 : ac.tmps[39]? = some (.agg #[.slice x103_3 n103_3 c103_3]) := (List.cons.inj e3).1
          have e4 := hp 4 (by decide)
          have t40 : ac.tmps[40]? = some (.agg #[.slice b1 k1 l1]) := (List.cons.inj e4).1
          clear hold hp hsz hf e3 e4
          go_simp
          (go_at_call 63; (with_reducible refine (DM.out _ _ g3_0 hB.now.2.2.2.2.2.1).mono ?_); rintro e wz ⟨x105, n105, c105, x106, n106, c106, rfl, h5_0, h5_1, hbz⟩)
          exact hK.out _ _ ⟨hB.go hbz, Exists.intro x105 (Exists.intro n105 (Exists.intro c105 (Exists.intro x106 (Exists.intro n106 (Exists.intro c106 (And.intro rfl (And.intro h5_0 h5_1))))))), hbz.size, .inl hbz, fun h => absurd h (by decide)⟩
        refine Stps4.cons (o := _) ?_ ?_
        · intro f ac yw hsz hold hB hp hf K hK
          obtain ⟨x105_5, n105_5, c105_5, x106_5, n106_5, c106_5, e5, g5_0, g5_1⟩ := hp 5 (by decide)
          have t41 : ac.tmps[41]? = some (.tuple #[.agg #[.slice x105_5 n105_5 c105_5], .agg #[.slice x106_5 n106_5 c106_5], .bool true]) := (List.cons.inj e5).1
          clear hold hp hsz hf e5
          go_simp
          exact hK.out _ _ ⟨hB, Exists.intro x105_5 (Exists.intro n105_5 (Exists.intro c105_5 (Exists.intro x106_5 (Exists.intro n106_5 (Exists.intro c106_5 (And.intro rfl (And.intro g5_0 g5_1))))))), Nat.le_refl _, .inl (Below.refl _ _), fun h => absurd h (by decide)⟩
        refine Stps4.cons (o := _) ?_ ?_
        · intro f ac yw hsz hold hB hp hf K hK
          obtain ⟨x105_6, n105_6, c105_6, x106_6, n106_6, c106_6, e6, g6_0, g6_1⟩ := hp 6 (by decide)
          have t35 : ac.tmps[35]? = some (.tuple #[.agg #[.slice x105_6 n105_6 c105_6], .agg #[.slice x106_6 n106_6 c106_6], .bool true]) := (List.cons.inj e6).1
          clear hold hp hsz hf e6
          go_simp
          exact hK.out _ _ ⟨hB, Exists.intro x105_6 (Exists.intro n105_6 (Exists.intro c105_6 (And.intro rfl g6_0))), Nat.le_refl _, .inl (Below.refl _ _), fun h => absurd h (by decide)⟩
        refine Stps4.cons (o := _) ?_ ?_
        · intro f ac yw hsz hold hB hp hf K hK
          obtain ⟨x105_6, n105_6, c105_6, x106_6, n106_6, c106_6, e6, g6_0, g6_1⟩ := hp 6 (by decide)
          have t35 : ac.tmps[35]? = some (.tuple #[.agg #[.slice x105_6 n105_6 c105_6], .agg #[.slice x106_6 n106_6 c106_6], .bool true]) := (List.cons.inj e6).1
          clear hold hp hsz hf e6
          go_simp
          exact hK.out _ _ ⟨hB, Exists.intro x106_6 (Exists.intro n106_6 (Exists.intro c106_6 (And.intro rfl g6_1))), Nat.le_refl _, .inl (Below.refl _ _), fun h => absurd h (by decide)⟩
        refine Stps4.cons (o := _) ?_ ?_
        · intro f ac yw hsz hold hB hp hf K hK
          obtain ⟨x105_6, n105_6, c105_6, x106_6, n106_6, c106_6, e6, g6_0, g6_1⟩ := hp 6 (by decide)
          have t35 : ac.tmps[35]? = some (.tuple #[.agg #[.slice x105_6 n105_6 c105_6], .agg #[.slice x106_6 n106_6 c106_6], .bool true]) := (List.cons.inj e6).1
          clear hold hp hsz hf e6
          go_simp
          exact hK.out _ _ ⟨hB, rfl, Nat.le_refl _, .inl (Below.refl _ _), fun h => absurd h (by decide)⟩
        refine Stps4.cons (o := _) ?_ ?_
        · intro f ac yw hsz hold hB hp hf K hK
          obtain ⟨x105_7, n105_7, c105_7, e7, g7_0⟩ := hp 7 (by decide)
          have t42 : ac.tmps[42]? = some (.agg #[.slice x105_7 n105_7 c105_7]) := (List.cons.inj e7).1
          have t12 : ac.tmps[12]? = some (.pointer (some ⟨wC.heap.size, 0, none⟩)) := hold 12 (by kernel_rfl)
          clear hold hp hsz hf e7
          obtain ⟨x9, y9, z9, hs⟩ := hB.now.2.2.1
          have l0 := hs.cell
          have f0 := hs.free
          have HB := HP10.out _ _ hB _ _ _ hs x105_7 n105_7 c105_7
          go_simp
          refine hK.out undef _ ⟨HB, Exists.intro x105_7 (Exists.intro n105_7 (Exists.intro c105_7 (And.intro (hs.set0 (.slice x105_7 n105_7 c105_7)) (NatIs.store g7_0 hs.cell (fun _ _ h => by cases h) _)))), by simp, .inr ?_, fun h => absurd h (by decide)⟩
          intro jj hj hap h
          match jj, h with
          | 0, h => exact h
          | 1, h => exact h
          | 2, ⟨x102, n102, c102, e2, g2_0⟩ => exact Exists.intro x102 (Exists.intro n102 (Exists.intro c102 (And.intro e2 (NatIs.store g2_0 hs.cell (fun _ _ h => by cases h) _))))
          | 3, ⟨x103, n103, c103, e3, g3_0⟩ => exact Exists.intro x103 (Exists.intro n103 (Exists.intro c103 (And.intro e3 (NatIs.store g3_0 hs.cell (fun _ _ h => by cases h) _))))
          | 4, h => exact h
          | 5, ⟨x105, n105, c105, x106, n106, c106, e5, g5_0, g5_1⟩ => exact Exists.intro x105 (Exists.intro n105 (Exists.intro c105 (Exists.intro x106 (Exists.intro n106 (Exists.intro c106 (And.intro e5 (And.intro (NatIs.store g5_0 hs.cell (fun _ _ h => by cases h) _) (NatIs.store g5_1 hs.cell (fun _ _ h => by cases h) _))))))))
          | 6, ⟨x105, n105, c105, x106, n106, c106, e6, g6_0, g6_1⟩ => exact Exists.intro x105 (Exists.intro n105 (Exists.intro c105 (Exists.intro x106 (Exists.intro n106 (Exists.intro c106 (And.intro e6 (And.intro (NatIs.store g6_0 hs.cell (fun _ _ h => by cases h) _) (NatIs.store g6_1 hs.cell (fun _ _ h => by cases h) _))))))))
          | 7, ⟨x105, n105, c105, e7, g7_0⟩ => exact Exists.intro x105 (Exists.intro n105 (Exists.intro c105 (And.intro e7 (NatIs.store g7_0 hs.cell (fun _ _ h => by cases h) _))))
          | 8, ⟨x106, n106, c106, e8, g8_0⟩ => exact Exists.intro x106 (Exists.intro n106 (Exists.intro c106 (And.intro e8 (NatIs.store g8_0 hs.cell (fun _ _ h => by cases h) _))))
          | 9, h => exact h
          | 10, _ => exact absurd rfl hj
          | 11, ⟨x106, n106, c106, g11_0, g11_1⟩ => exact Exists.intro x106 (Exists.intro n106 (Exists.intro c106 (And.intro (Slot.seto g11_0 (by omega) _) (NatIs.store g11_1 hs.cell (fun _ _ h => by cases h) _))))
          | _ + 12, h => exact h
        refine Stps4.cons (o := _) ?_ ?_
        · intro f ac yw hsz hold hB hp hf K hK
          obtain ⟨x106_8, n106_8, c106_8, e8, g8_0⟩ := hp 8 (by decide)
          have t43 : ac.tmps[43]? = some (.agg #[.slice x106_8 n106_8 c106_8]) := (List.cons.inj e8).1
          have t8 : ac.tmps[8]? = some (.pointer (some ⟨W8, 0, none⟩)) := hold 8 (by kernel_rfl)
          clear hold hp hsz hf e8
          obtain ⟨x9, y9, z9, hs⟩ := hB.now.2.1
          have l0 := hs.cell
          have f0 := hs.free
          have HB := HP11.out _ _ hB _ _ _ hs x106_8 n106_8 c106_8
          go_simp
          refine hK.out undef _ ⟨HB, Exists.intro x106_8 (Exists.intro n106_8 (Exists.intro c106_8 (And.intro (hs.set0 (.slice x106_8 n106_8 c106_8)) (NatIs.store g8_0 hs.cell (fun _ _ h => by cases h) _)))), by simp, .inr ?_, fun h => absurd h (by decide)⟩
          intro jj hj hap h
          match jj, h with
          | 0, h => exact h
          | 1, h => exact h
          | 2, ⟨x102, n102, c102, e2, g2_0⟩ => exact Exists.intro x102 (Exists.intro n102 (Exists.intro c102 (And.intro e2 (NatIs.store g2_0 hs.cell (fun _ _ h => by cases h) _))))
          | 3, ⟨x103, n103, c103, e3, g3_0⟩ => exact Exists.intro x103 (Exists.intro n103 (Exists.intro c103 (And.intro e3 (NatIs.store g3_0 hs.cell (fun _ _ h => by cases h) _))))
          | 4, h => exact h
          | 5, ⟨x105, n105, c105, x106, n106, c106, e5, g5_0, g5_1⟩ => exact Exists.intro x105 (Exists.intro n105 (Exists.intro c105 (Exists.intro x106 (Exists.intro n106 (Exists.intro c106 (And.intro e5 (And.intro (NatIs.store g5_0 hs.cell (fun _ _ h => by cases h) _) (NatIs.store g5_1 hs.cell (fun _ _ h => by cases h) _))))))))
          | 6, ⟨x105, n105, c105, x106, n106, c106, e6, g6_0, g6_1⟩ => exact Exists.intro x105 (Exists.intro n105 (Exists.intro c105 (Exists.intro x106 (Exists.intro n106 (Exists.intro c106 (And.intro e6 (And.intro (NatIs.store g6_0 hs.cell (fun _ _ h => by cases h) _) (NatIs.store g6_1 hs.cell (fun _ _ h => by cases h) _))))))))
          | 7, ⟨x105, n105, c105, e7, g7_0⟩ => exact Exists.intro x105 (Exists.intro n105 (Exists.intro c105 (And.intro e7 (NatIs.store g7_0 hs.cell (fun _ _ h => by cases h) _))))
          | 8, ⟨x106, n106, c106, e8, g8_0⟩ => exact Exists.intro x106 (Exists.intro n106 (Exists.intro c106 (And.intro e8 (NatIs.store g8_0 hs.cell (fun _ _ h => by cases h) _))))
          | 9, h => exact h
          | 10, ⟨x105, n105, c105, g10_0, g10_1⟩ => exact Exists.intro x105 (Exists.intro n105 (Exists.intro c105 (And.intro (Slot.seto g10_0 (by omega) _) (NatIs.store g10_1 hs.cell (fun _ _ h => by cases h) _))))
          | 11, _ => exact absurd rfl hj
          | _ + 12, h => exact h
        exact Stps4.nil _
    · obtain rfl : j = many := by omega
      have d1 : decide ((j : Int) < (j : Int)) = false := decide_eq_false (by omega)
      have hpos : 1 ≤ j := (by omega)
      have CMc := cmpI_neg (gR T B j + gR T B j) B
      have AD := Lib.hid (fun wz (h : NatIs wz (.agg #[.slice a2 n2 c2]) (gR T B j)) => (add_any (.agg #[.slice a2 n2 c2]) (.agg #[.slice a2 n2 c2]) (gR T B j) (gR T B j) wz h h K (by omega) (HRK.out j) (HRK.out j)).mono fun e w' ho => NatOut.told ho)
      have CM := Lib.hid (fun v wz h g => cmp_any v (.agg #[.slice b1 k1 l1]) (gR T B j + gR T B j) B wz h g)
      have BB : Bag w (fun _ => True) wr := ⟨HBL.out, fun _ _ _ _ => trivial, trivial⟩
      have BB := Lib.hid ((((BB.add (fun _ _ hb q => Row8.below q hb) HROW.out).nat HBOT.out).nat HRN.out).slot HS4.out |>.slot HS8.out)
      have BB := Lib.hid BB.out.drew
      generalize hcj : cmpI (gR T B j + gR T B j) B = ci at *
      unfold NatTold at AD
      go_wp2_with fail
      go_region_held3 (fun y => y.cell? ⟨W8, 0, none⟩ = some (.slice a2 n2 c2) ∧ y.cell? ⟨w.heap.size + 1, 0, none⟩ = some (.slice b1 k1 l1))
        (exact ⟨BB.out.now.1.cell, BB.out.now.2.1.cell⟩)
        (first
          | (go_at_call 65; (with_reducible refine (AD.out _ BB.out.now.2.2.1).mono ?_); rintro x w7 ⟨a7, n7, c7, rfl, hn7, hb7⟩; have BB := Lib.hid (BB.out.go hb7))
          | (go_at_call 66; (with_reducible refine (CM.out _ _ hn7 BB.out.now.2.2.2.1).mono ?_); rintro x w8 ⟨rfl, hb8⟩; have BB := Lib.hid (BB.out.go hb8)))
      have hrow := BB.out.now.2.2.2.2.1
      have hcv := hrow.string (by omega)
      have hlw := BB.out.below
      by_cases h2 : 2 * gR T B j < B
      · obtain ⟨e1, e2⟩ := fd_lo HF.out.1 HF.out.2.1 HF.out.2.2 hpos hj (.inl rfl) h2
        have TR := Lib.hid (fun wz => Tryz.strings_TrimRight_one (str (sdig (gN T B j) j)) 48 (by decide) wz (by rw [str_size, sdig_length]; omega))
        rw [str_toList, ← e1] at TR
        have HM : Hid (.tuple #[.string (str (zd (mM T B j))), .int .i64 (E + (dl (mM T B j) : Int) - (j : Int))] = Value.tuple #[.string (str (zd (mM T B j))), .int .i64 E]) := by
          show _ = _
          rw [e2, show E + (j : Int) - (j : Int) = E by omega]
        have hcd : decide (ci < 0) = true := CMc.trans (decide_eq_true (by omega))
        clear e1 e2 CMc hcj
        generalize str (sdig (gN T B j) j) = s0 at *
        go_wp2_with fail
        go_at_call 67
        refine (TR.out _).mono ?_
        rintro x w9 ⟨rfl, rfl⟩
        clear hcv
        go_wp2
        exact bodyPost_ret (v := .tuple #[.string (str (zd (mM T B j))), .int .i64 E]) (by simp [results, Tryz.results31, go_sem]; rfl) rfl ⟨by rw [HM.out], hlw⟩
      · obtain ⟨e1, e2⟩ := fd_hi HF.out.1 HF.out.2.1 HF.out.2.2 hpos h2 E
        have RU := Lib.hid (fun wz => roundedUp_any (gN T B j) j E wz (g_lt HF.out.2.1 j) (by omega) (by omega))
        have HM : Hid (.tuple #[.string (str (zd (mM T B j))), .int .i64 (E + (dl (mM T B j) : Int) - (j : Int))] = Value.tuple #[.string (str (ruD (gN T B j) j)), .int .i64 (ruE (gN T B j) j E)]) := by
          show _ = _
          rw [e1, e2]
        have hcd : decide (ci < 0) = false := CMc.trans (decide_eq_false (by omega))
        clear e1 e2 CMc hcj
        generalize str (ruD (gN T B j) j) = s1 at *
        generalize ruE (gN T B j) j E = E1 at *
        generalize str (sdig (gN T B j) j) = s0 at *
        go_wp2_with fail
        go_at_call 68
        refine (RU.out _).mono ?_
        rintro x w9 ⟨rfl, hb9⟩
        have HLW := Lib.hid (hlw.trans (hb9.mono hlw.size))
        clear hcv hb9
        go_wp2
        exact bodyPost_ret (v := .tuple #[.string s1, .int .i64 E1]) (by simp [results, Tryz.results31, go_sem]) rfl ⟨by rw [HM.out], HLW.out⟩

end Go.Proofs.YtgpcfncolhmgfaaGreatDoor
