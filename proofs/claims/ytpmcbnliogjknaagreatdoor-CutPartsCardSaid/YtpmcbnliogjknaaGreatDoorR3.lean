/-
  Texts of this seat, laid together.
-/
import Derived.Laws.BytesArg
import Derived.Lib.SliceRun
import Derived.Lib.Walk
import Derived.Deep.RegionHeld3
import Derived.Below
import Derived.WalkKit
import Derived.WalkSpells
import Derived.Deep.Draws
import Derived.Lib.Hide
import Derived.Lib.TrimByte
import Derived.WalkLawsBesides
import Derived.Laws.CopyOwn
import Derived.Deep.QuietTactic
import Derived.BigQuiet
import Derived.BigRegion
import Derived.RegionTactic
import Derived.Deep.RegionWith
import Derived.StillTailTactics
import Derived.IntWalk
import Derived.Test.YtpmcbnliogjknaaGreatDoorRows
import Derived.Deep.AppendLies
import Derived.Deep.RegionLaw
import Derived.Laws.StructEq
import Derived.ChangeKeysEq
import Derived.Shelf.Abstract
import Derived.Deep.DrawnRows
import Derived.Laws.BitsLemmas
import Derived.Lib.ItoaNum
import Derived.Test.YtpmcbnliogjknaaGreatDoorShelf
import Derived.Laws.OwnMore
import Derived.Lib.AppendZeros
import Derived.Laws.AppendOwnNone
import Derived.Deep.MidRow
import Derived.Laws.EntriesVeiled
import Derived.Test.YtpmcbnliogjknaaGreatDoorQ1
import Derived.Test.YtpmcbnliogjknaaGreatDoorQ2
import Derived.Test.YtpmcbnliogjknaaGreatDoorQ3
import Derived.Test.YtpmcbnliogjknaaGreatDoorQ4
import Derived.Test.YtpmcbnliogjknaaGreatDoorQ5
import Derived.Test.YtpmcbnliogjknaaGreatDoorQ6
import Derived.Test.YtpmcbnliogjknaaGreatDoorQ7
import Derived.Test.YtpmcbnliogjknaaGreatDoorQ8
import Derived.Test.YtpmcbnliogjknaaGreatDoorQ9
import Derived.Test.YtpmcbnliogjknaaGreatDoorQ10
import Derived.Test.YtpmcbnliogjknaaGreatDoorR1
import Derived.Test.YtpmcbnliogjknaaGreatDoorR2

namespace Go.Proofs.YtpmcbnliogjknaaGreatDoor
open Go.RowKit
set_option linter.unusedSimpArgs false in
set_option linter.unusedVariables false in
set_option maxHeartbeats 6400000 in
set_option maxRecDepth 100000 in
theorem rPart_no (drop : Bool) (hdr : drop = false) (cs0 : Array Value) (S0 : Nat → Int) (r0 : Nat) (ch0 : Bool) (L0 : Nat) (g0 : Nat → Int) (fB0 : Nat → Bool) (fS0 fT0 : Nat → ByteArray) (P0 : Nat → Int) (Q0 : Nat → Nat) (cs : Array Value) (S : Nat → Int) (r : Nat) (ch : Bool) (L : Nat) (g : Nat → Int) (fB : Nat → Bool) (fS fT : Nat → ByteArray) (w : World)
    (h0 : Pln w cs0 S0 r0 ch0 L0 g0 fB0 fS0 fT0) (hN0 : NumOk fB0 fS0 fT0 P0 Q0 (nnO ch0 L0)) (hL0 : L0 ≤ 4096) (h : Pln w cs S r ch L g fB fS fT) (hsh : shB S r = true) (hL : L ≤ 1000000) :
    Calls Tryz.prog 10 #[.agg cs0, .agg cs, .bool drop] w fun e w' => PoTold (paE drop 5000 r0 ch0 L0 P0 Q0 S r) (lnF (paN drop 5000 P0 (paS r S))) L0 ch (itm (lnF (paN drop 5000 P0 (paS r S))) L0).toNat (fun j => elC L g 32 (pkG (paS r S) (lnF (paN drop 5000 P0 (paS r S))) L0 (paF drop 5000 P0 (paS r S)) j)) (fun j => elB L fB (pkG (paS r S) (lnF (paN drop 5000 P0 (paS r S))) L0 (paF drop 5000 P0 (paS r S)) j)) (fun j => elS L fS (rS 0) (pkG (paS r S) (lnF (paN drop 5000 P0 (paS r S))) L0 (paF drop 5000 P0 (paS r S)) j)) (fun j => elS L fT (str (dec 1)) (pkG (paS r S) (lnF (paN drop 5000 P0 (paS r S))) L0 (paF drop 5000 P0 (paS r S)) j)) w w' e := by
  obtain ⟨sb, sbc, tb, tbc, nb, nbc, hcs0, _⟩ := h0.form
  subst hcs0
  obtain ⟨sa, sc, ta, tc, na, nc, hcs, hks⟩ := h.form
  subst hcs
  obtain ⟨h8, hax⟩ := sh_ax hsh
  have HDR := Lib.hid hdr
  clear hdr
  have H0 := Lib.hid h0
  have H := Lib.hid h
  have LI := Lib.hid (fun wz (q : Pln wz (plC sb r0 sbc ch0 tb (tnO ch0 L0) tbc nb (nnO ch0 L0) nbc) S0 r0 ch0 L0 g0 fB0 fS0 fT0) => rlist_any (plC sb r0 sbc ch0 tb (tnO ch0 L0) tbc nb (nnO ch0 L0) nbc) S0 r0 ch0 L0 g0 fB0 fS0 fT0 P0 Q0 wz q hN0 (by omega))
  unfold LiTold at LI
  have B0 := Lib.hid (((((Bag.start w).krow hks).newRow (plC sb r0 sbc ch0 tb (tnO ch0 L0) tbc nb (nnO ch0 L0) nbc) 26).newRow (plC sa r sc ch ta (tnO ch L) tc na (nnO ch L) nc) 26).newRow plZer 26)
  simp only [World.size_alloc] at B0
  have HR1 := Lib.hid B0.out.now.2.2.1
  have hhi : whC ch0 L0 P0 Q0 = true → In64 P0 L0 := whC_in
  obtain ⟨S2, hS2⟩ : ∃ f, paS r S = f := ⟨_, rfl⟩
  obtain ⟨TT, hTT⟩ : ∃ f, lnF (paN drop 5000 P0 S2) = f := ⟨_, rfl⟩
  obtain ⟨EE, hEE⟩ : ∃ E, paE drop 5000 r0 ch0 L0 P0 Q0 S r = E := ⟨_, rfl⟩
  rw [hEE]
  unfold paE at hEE
  rw [hS2, hTT] at hEE
  rw [hS2, hTT]
  obtain ⟨FR, hFR⟩ : ∃ f : Nat → Int, (fun j => tkF drop (bnd 5000 (P0 j)) (S2 j)) = f := ⟨_, rfl⟩
  have hFF : paF drop 5000 P0 S2 = frF FR := by rw [← hFR]; rfl
  rw [hFF]
  obtain ⟨eC, heC⟩ : ∃ f : Nat → Int, (fun j => elC L g 32 (pkG S2 TT L0 (frF FR) j)) = f := ⟨_, rfl⟩
  obtain ⟨eB, heB⟩ : ∃ f : Nat → Bool, (fun j => elB L fB (pkG S2 TT L0 (frF FR) j)) = f := ⟨_, rfl⟩
  obtain ⟨eS, heS⟩ : ∃ f : Nat → ByteArray, (fun j => elS L fS (rS 0) (pkG S2 TT L0 (frF FR) j)) = f := ⟨_, rfl⟩
  obtain ⟨eT, heT⟩ : ∃ f : Nat → ByteArray, (fun j => elS L fT (str (dec 1)) (pkG S2 TT L0 (frF FR) j)) = f := ⟨_, rfl⟩
  obtain ⟨MM, hMM⟩ : ∃ E, (itm TT L0).toNat = E := ⟨_, rfl⟩
  rw [heC, heB, heS, heT, hMM]
  have HNO : Hid (∀ (E : Int) wz, EE = E → E ≠ 0 → Below w.heap.size w wz → PoTold EE TT L0 ch MM eC eB eS eT w (wz.setRow (w.heap.size + 1 + 1) plZer) (.returned (.tuple #[.agg plZer, .int .i64 E]))) := Lib.hid (fun E wz e hE hb => by
    subst e
    exact PoTold.no hE (below_put hb (show w.heap.size ≤ w.heap.size + 1 + 1 by omega) plZer))
  generalize whC ch0 L0 P0 Q0 = wb at *
  by_cases hE : liE r0 wb = 0
  · have hin := hhi (liE_whole hE)
    rw [if_pos hE] at hEE
    rw [hE] at LI
    clear hE hhi
    obtain ⟨q, hqd⟩ : ∃ q : Nat, (if r = 0 then L0 else r) = q := ⟨_, rfl⟩
    have hqr : (r = 0 ∨ L0 = r) ↔ q = L0 := by
      rw [← hqd]
      by_cases e : r = 0
      · rw [if_pos e]; exact ⟨fun _ => rfl, fun _ => .inl e⟩
      · rw [if_neg e]; exact ⟨fun h => (h.resolve_left e).symm, fun h => .inr h.symm⟩
    have HSX : Hid (∀ k, k < L0 → q = L0 → 0 ≤ S2 k ∧ S2 k ≤ 4096) := Lib.hid (fun k hk hq => by
      rw [← hS2]
      unfold paS
      by_cases e : r = 0
      · rw [if_pos e]; omega
      · rw [if_neg e]
        have : L0 = r := (hqr.2 hq).resolve_left e
        exact ax_le4 hsh (by omega))
    have HS8 : q = L0 → L0 ≤ 8 → shB S2 L0 = true := fun hq h8' => by
      rw [← hS2]
      unfold paS
      by_cases e : r = 0
      · have : (fun j : Nat => if r = 0 then (1 : Int) else S j) = fun _ => 1 := by funext j; rw [if_pos e]
        rw [this]
        exact (sh_ones h8').1
      · have : (fun j : Nat => if r = 0 then (1 : Int) else S j) = S := by funext j; rw [if_neg e]
        rw [this, (hqr.2 hq).resolve_left e]
        exact hsh
    have HTK : Hid (∀ k, k < L0 → q = L0 → tkN drop (bnd 5000 (P0 k)) (S2 k) = TT k ∧ tkF drop (bnd 5000 (P0 k)) (S2 k) = FR k ∧ 0 ≤ TT k ∧ TT k ≤ 5000 ∧ -10000 ≤ FR k ∧ FR k ≤ 10000) := Lib.hid (fun k hk hq => by
      have h1 := HSX.out k hk hq
      have h2 := bnd_bd (b := 5000) (by omega) (P0 k)
      have e1 : TT k = tkN drop (bnd 5000 (P0 k)) (S2 k) := by
        rw [← hTT]
        show ((tkN drop (bnd 5000 (P0 k)) (S2 k)).toNat : Int) = _
        unfold tkN
        split <;> omega
      have e2 : FR k = tkF drop (bnd 5000 (P0 k)) (S2 k) := by rw [← hFR]
      rw [e1, e2]
      refine ⟨rfl, rfl, ?_, ?_, ?_, ?_⟩
      · unfold tkN; split <;> omega
      · unfold tkN; split <;> omega
      · unfold tkF; split <;> split <;> omega
      · unfold tkF; split <;> split <;> omega)
    have WN : Hid (q = L0 → ∀ s1 d1 f1 c1 m1 e1 wz, Pln wz (plC sa r sc ch ta (tnO ch L) tc na (nnO ch L) nc) S r ch L g fB fS fT → KRow wz .i64 s1 L0 d1 S2 → KRow wz .i64 f1 L0 c1 FR → KRow wz .i64 m1 L0 e1 TT → Calls Tryz.prog 26 #[.agg (plC sa r sc ch ta (tnO ch L) tc na (nnO ch L) nc), .slice s1 L0 d1, .slice f1 L0 c1, .slice m1 L0 e1] wz fun e w' => PoTold EE TT L0 ch MM eC eB eS eT wz w' e) := Lib.hid (fun hq s1 d1 f1 c1 m1 e1 wz p k1 k2 k3 => by
      have := rwindow_any (plC sa r sc ch ta (tnO ch L) tc na (nnO ch L) nc) S r ch L g fB fS fT s1 d1 L0 S2 f1 c1 FR m1 e1 TT wz p k1 k2 k3 (HS8 hq) (fun j hj => by have := HTK.out j hj hq; omega) (fun j hj => by have := HTK.out j hj hq; omega) hL
      rw [if_pos (hqr.2 hq)] at hEE
      unfold wnE at this
      rw [heC, heB, heS, heT, hMM, hEE] at this
      exact this)
    have HNE : Hid (¬ q = L0 → EE = 24) := Lib.hid (fun e => by rw [if_neg (fun h => e (hqr.1 h))] at hEE; exact hEE.symm)
    have HP64 : Hid (∀ k, k < L0 → -9223372036854775808 ≤ P0 k ∧ P0 k ≤ 9223372036854775807) := Lib.hid (fun k hk => hin k hk)
    have HS0 : Hid (∀ k, r = 0 → (1 : Int) = S2 k) := Lib.hid (fun k e => by rw [← hS2]; unfold paS; rw [if_pos e])
    have HS1 : Hid (r ≠ 0 → S = S2) := Lib.hid (fun e => by rw [← hS2]; funext k; unfold paS; rw [if_neg e])
    have hq0 : r = 0 → q = L0 := fun e => by rw [← hqd, if_pos e]
    have hq1 : r ≠ 0 → q = r := fun e => by rw [← hqd, if_neg e]
    clear hEE hS2 hTT hFR hFF heC heB heS heT hMM h0 h hks hN0 hsh hax hqd hqr HS8 hin
    unfold plC
    go_enter Tryz.func10, Tryz.ntmps10
    go_wp2_with (refine ld_pln rfl (.tmp 3) rfl w.heap.size rfl HR1.out ?_)
    go_at_call 25
    (with_reducible refine (LI.out _ ?_).mono ?_)
    · exact H0.out.below B0.out.below
    rintro e w2 ⟨aL, mL, cL, rfl, hk6, hb2⟩
    obtain ⟨hm6, hk7⟩ := hk6 trivial
    clear hk6
    subst mL
    have BB := Lib.hid ((B0.out.go hb2).krow hk7)
    have hl := hk7.len
    clear hk7 hb2
    have x1 : w2.cell? ⟨w.heap.size + 1, 0, none⟩ = some (.slice sa r sc) := BB.out.now.2.2.1.cell 0
    obtain ⟨a1, c1, y1, hr1, ho1⟩ := own_new (wr := w2) BB.out.now.2.2.2.2.1 (by omega)
    have HO1 := Lib.hid ho1
    have x2 : (w2.alloc (.cells #[] 3)).cell? ⟨w.heap.size + 1, 0, none⟩ = some (.slice sa r sc) := (BB.out.alloc (.cells #[] 3)).now.2.2.1.cell 0
    clear ho1
    go_wp2_with (at_builtin; refine Lib.wpList_append_run _ rfl _ _ _ _ rfl _ _ rfl rfl _ _ hr1 ?_)
    clear hr1 x2
    go_wp2_with fail
    go_loopw [10, 11] (fun s i wr => ∃ (k m : Nat) (a : Option Addr) (c : Nat), k ≤ L0 ∧ s = .slice a m c ∧ i = .int .i64 k ∧ Hid ((r = 0 → m = k) ∧ (r ≠ 0 → m = r ∧ k = 0) ∧ OwnI w2 wr a m c S2)) (fun _ i _ => L0 - (intOf i).toNat)
    case atStart => exact ⟨0, r, a1, c1, by omega, rfl, rfl, fun e => e, fun _ => ⟨rfl, rfl⟩, by
      by_cases e : r = 0
      · refine ⟨HO1.out.1, ?_⟩
        have := HO1.out.2
        rw [show kcs .i64 S r = kcs .i64 S2 r by subst e; rfl] at this
        exact this
      · rw [← HS1.out e]; exact HO1.out⟩
    case round =>
      obtain ⟨k, m, a, c, hk, rfl, rfl, hrel⟩ := hrel
      obtain ⟨hm0, hm1, ho⟩ := hrel.out
      have BW := Lib.hid (BB.out.go ho.1)
      have x0 : wr.cell? ⟨w.heap.size + 1, 0, none⟩ = some (.slice sa r sc) := BW.out.now.2.2.1.cell 0
      have hmb : m ≤ 1000000 := by
        by_cases e : r = 0
        · have := hm0 e; omega
        · have := (hm1 e).1; omega
      by_cases hgo : k < L0 ∧ r = 0
      · obtain ⟨hlt, hr00⟩ := hgo
        have hmk := hm0 hr00
        obtain ⟨a', c', y3, hr3, ho'⟩ := app1_step ho (x := 1) (by rw [HS0.out m hr00]) (by omega)
        have HN : Hid ((r = 0 → m + 1 = k + 1) ∧ (r ≠ 0 → m + 1 = r ∧ k + 1 = 0) ∧ OwnI w2 y3 a' (m + 1) c' S2) := Lib.hid ⟨fun _ => by omega, fun e => absurd hr00 e, ho'⟩
        have hk0 : (0 : Int) ≤ k := by omega
        have hk1 : (k : Int) < L0 := by omega
        have d0 : (((r : Nat) : Int) == 0) = true := beq_iff_eq.2 (by omega)
        clear hrel hm0 hm1 ho ho' hr00 hmk
        go_wp2_with (at_builtin; refine Lib.wpList_append_run _ rfl _ _ _ _ rfl _ _ rfl rfl _ _ hr3 ?_)
        go_roundw
        case rel => exact ⟨k + 1, m + 1, a', c', by omega, rfl, by go_num, HN.out⟩
        case measure => simp [intOf]; omega
      · have hmq : m = q := by
          by_cases e : r = 0
          · have h1 := hm0 e
            have h2 := hq0 e
            have h3 : ¬ k < L0 := fun h => hgo ⟨h, e⟩
            omega
          · rw [hq1 e]; exact (hm1 e).1
        subst hmq
        have hd : ¬ ((k : Int) < L0) ∨ ((k : Int) < L0 ∧ (((r : Nat) : Int) == 0) = false) := by
          by_cases h : k < L0
          · exact .inr ⟨by omega, beq_eq_false_iff_ne.2 (fun e => hgo ⟨h, by omega⟩)⟩
          · exact .inl (by omega)
        have HSO := Lib.hid ho
        clear hrel hm0 hm1 ho hgo HO1 x1
        by_cases hmL : m = L0
        · have d9 : (((m : Nat) : Int) != ((L0 : Nat) : Int)) = false := by rw [hmL]; exact bne_self_eq_false _
          have HTK1 := Lib.hid (fun k hk => HTK.out k hk hmL)
          have WN1 := Lib.hid (WN.out hmL)
          have HSX1 := Lib.hid (fun k hk => HSX.out k hk hmL)
          clear HTK WN HSX
          subst hmL
          have HKS := Lib.hid HSO.out.krow
          have BV := Lib.hid ((BB.out.go HSO.out.1).krow HKS.out)
          clear HSO HNE hq0 hq1 HNO
          obtain ⟨y4, hy4⟩ : ∃ y4, y4 = wr := ⟨_, rfl⟩
          subst hy4
          rcases hd with d1 | ⟨d1, d2⟩
          all_goals
            go_wp2_with fail
            go_loopw [12, 13, 14, 15, 16, 17] (fun fr mn i n lo fi wr => ∃ (k : Nat) (a1 a2 : Option Addr) (c1 c2 : Nat), k ≤ m ∧ i = .int .i64 k ∧ fr = .slice a1 k c1 ∧ mn = .slice a2 k c2 ∧ (∃ v, v = n) ∧ (∃ v, v = lo) ∧ (∃ v, v = fi) ∧ Hid (OwnII y4 wr a1 c1 FR a2 c2 TT k)) (fun _ _ i _ _ _ _ => m - (intOf i).toNat)
            case atStart => exact ⟨0, none, none, 0, 0, by omega, rfl, rfl, rfl, ⟨_, rfl⟩, ⟨_, rfl⟩, ⟨_, rfl⟩, OwnII.nil _ _ _⟩
            case round =>
              obtain ⟨k, a1, a2, c1, c2, hk, rfl, rfl, rfl, ⟨v15, rfl⟩, ⟨v16, rfl⟩, ⟨v17, rfl⟩, ho⟩ := hrel
              have BW := Lib.hid (BV.out.go ho.out.1.1)
              by_cases hlt : k < m
              · obtain ⟨b1, o1, hab, hb1, hc1⟩ := BW.out.now.2.1.get hlt
                cases hab
                obtain ⟨b2, o2, hab, hb2, hc2⟩ := BW.out.now.1.get hlt
                cases hab
                have hk0 : (0 : Int) ≤ k := by omega
                have hk1 : (k : Int) < m := by omega
                obtain ⟨ht1, ht2, ht3⟩ := HTK1.out k hlt
                have hsx := HSX1.out k hlt
                have hp := HP64.out k hlt
                obtain ⟨t, ht⟩ : ∃ t, bnd 5000 (P0 k) = t := ⟨_, rfl⟩
                rw [ht] at ht1 ht2
                unfold bnd at ht
                obtain ⟨x, y, a1', c1', y5, hr5, a2', c2', y6, hr6, ho6, hxv, hyv⟩ : ∃ x y a1' c1' y5, (Builtin.append_ #[22, 22] 22 #[.slice a1 k c1, .slice (some ⟨wr.heap.size, 0, none⟩) 1 1]).run Tryz.prog (wr.alloc (.cells #[.int .i64 x] 3)) = .ok (.slice a1' (k + 1) c1') y5 ∧ ∃ a2' c2' y6, (Builtin.append_ #[22, 22] 22 #[.slice a2 k c2, .slice (some ⟨y5.heap.size, 0, none⟩) 1 1]).run Tryz.prog (y5.alloc (.cells #[.int .i64 y] 3)) = .ok (.slice a2' (k + 1) c2') y6 ∧ OwnII y4 y6 a1' c1' FR a2' c2' TT (k + 1) ∧ x = tkF drop t (S2 k) ∧ y = tkN drop t (S2 k) := by
                  obtain ⟨a1', c1', y5, hr5, a2', c2', y6, hr6, ho6⟩ := app2_step ho.out ht2 ht1 (by omega)
                  exact ⟨_, _, a1', c1', y5, hr5, a2', c2', y6, hr6, ho6, rfl, rfl⟩
                have HO6 := Lib.hid ho6
                clear ho ho6 ht1 ht2 ht3
                generalize S2 k = s at *
                generalize P0 k = p at *
                have hdr2 := HDR.out
                subst hdr2
                have hxw : x = if t < 0 then s + t else 0 := hxv
                have hyw : y = (t.natAbs : Int) := hyv
                clear hxv hyv
                by_cases h1 : 5000 < p
                · obtain rfl : t = 5000 := by omega
                  obtain rfl : x = 0 := by rw [hxw, if_neg (by omega)]
                  obtain rfl : y = 5000 := by rw [hyw]; rfl
                  clear hxw hyw ht
                  go_wp2_with (first | (at_builtin; refine Lib.wpList_append_run _ rfl _ _ _ _ rfl _ _ rfl rfl _ _ hr5 ?_) | (at_builtin; refine Lib.wpList_append_run _ rfl _ _ _ _ rfl _ _ rfl rfl _ _ hr6 ?_))
                  go_roundw
                  case rel => exact ⟨k + 1, a1', a2', c1', c2', by omega, by go_num, rfl, rfl, ⟨_, rfl⟩, ⟨_, rfl⟩, ⟨_, rfl⟩, HO6⟩
                  case measure => simp [intOf]; omega
                · by_cases h2 : p < -5000
                  · obtain rfl : t = -5000 := by omega
                    obtain rfl : x = s + -5000 := by rw [hxw, if_pos (by omega)]
                    obtain rfl : y = 5000 := by rw [hyw]; rfl
                    have w1 := IntWalk.i64_in (s + -5000) (by omega)
                    clear hxw hyw ht
                    go_wp2_with (first | (at_builtin; refine Lib.wpList_append_run _ rfl _ _ _ _ rfl _ _ rfl rfl _ _ hr5 ?_) | (at_builtin; refine Lib.wpList_append_run _ rfl _ _ _ _ rfl _ _ rfl rfl _ _ hr6 ?_))
                    go_roundw
                    case rel => exact ⟨k + 1, a1', a2', c1', c2', by omega, by go_num, rfl, rfl, ⟨_, rfl⟩, ⟨_, rfl⟩, ⟨_, rfl⟩, HO6⟩
                    case measure => simp [intOf]; omega
                  · obtain rfl : t = p := by omega
                    by_cases h3 : t < 0
                    · obtain rfl : x = s + t := by rw [hxw, if_pos h3]
                      obtain rfl : y = -t := by omega
                      have w1 := IntWalk.i64_in (s + t) (by omega)
                      have w2 := IntWalk.i64_in (-t) (by omega)
                      clear hxw hyw ht
                      go_wp2_with (first | (at_builtin; refine Lib.wpList_append_run _ rfl _ _ _ _ rfl _ _ rfl rfl _ _ hr5 ?_) | (at_builtin; refine Lib.wpList_append_run _ rfl _ _ _ _ rfl _ _ rfl rfl _ _ hr6 ?_))
                      go_roundw
                      case rel => exact ⟨k + 1, a1', a2', c1', c2', by omega, by go_num, rfl, rfl, ⟨_, rfl⟩, ⟨_, rfl⟩, ⟨_, rfl⟩, HO6⟩
                      case measure => simp [intOf]; omega
                    · obtain rfl : x = 0 := by rw [hxw, if_neg h3]
                      obtain rfl : y = t := by omega
                      clear hxw hyw ht
                      go_wp2_with (first | (at_builtin; refine Lib.wpList_append_run _ rfl _ _ _ _ rfl _ _ rfl rfl _ _ hr5 ?_) | (at_builtin; refine Lib.wpList_append_run _ rfl _ _ _ _ rfl _ _ rfl rfl _ _ hr6 ?_))
                      go_roundw
                      case rel => exact ⟨k + 1, a1', a2', c1', c2', by omega, by go_num, rfl, rfl, ⟨_, rfl⟩, ⟨_, rfl⟩, ⟨_, rfl⟩, HO6⟩
                      case measure => simp [intOf]; omega
              · have hkm : k = m := by omega
                subst k
                have HR9 := Lib.hid BW.out.now.2.2.2.1
                have HK1 := Lib.hid ho.out.left
                have HK2 := Lib.hid ho.out.right
                clear ho hlt hk
                go_wp2_with (refine ld_pln rfl (.tmp 4) rfl (w.heap.size + 1) rfl HR9.out ?_)
                go_at_call 26
                (refine (WN1.out _ _ _ _ _ _ _ (H.out.below BW.out.below) BW.out.now.1 HK1.out HK2.out).mono ?_)
                rintro e w9 hpt
                obtain ⟨x9, rfl, hip, hp9, hz9, hb9⟩ := hpt.res2
                have B9 := BW.out.go hb9
                have HZ := Lib.hid B9.now.2.2.1
                have HE : Hid (PoTold EE TT m ch MM eC eB eS eT w (w9.setRow (w.heap.size + 1 + 1) x9) (.returned (.tuple #[.agg x9, .int .i64 EE]))) := Lib.hid ⟨x9, rfl, fun e => (hp9 e).put HZ.out x9, hz9, below_put B9.below (show w.heap.size ≤ w.heap.size + 1 + 1 by omega) x9⟩
                obtain ⟨q1, q2, q3, q4, q5, q6, q7, q8, q9, q10, hx9⟩ := hip
                subst hx9
                clear hpt hp9 hz9 hb9 B9
                go_wp2_with (refine st_pln rfl (.tmp 6) (.tmp 102) rfl (w.heap.size + 1 + 1) rfl _ _ _ _ _ _ _ _ _ _ rfl HZ.out rfl ?_)
                exact bodyPost_ret (res_pln2 Tryz.results10 rfl rfl (HZ.out.put _) rfl) rfl HE.out
        · have d9 : (((m : Nat) : Int) != ((L0 : Nat) : Int)) = true := bne_iff_ne.2 (by omega)
          have HQ := Lib.hid (HNE.out hmL)
          have HZ := Lib.hid BW.out.now.2.1
          have HE := Lib.hid (HNO.out 24 _ HQ.out (by decide) BW.out.below)
          clear hmL HSO
          rcases hd with d1 | ⟨d1, d2⟩
          all_goals
            go_wp2_with (refine st_pln rfl (.tmp 6) (.tmp 51) rfl (w.heap.size + 1 + 1) rfl none 0 0 false none 0 0 none 0 0 rfl HZ.out rfl ?_)
            exact bodyPost_ret (res_pln2 Tryz.results10 rfl rfl (HZ.out.put _) rfl) rfl HE.out
  · rw [if_neg hE] at hEE
    generalize liE r0 wb = E0 at *
    have dE : (E0 != 0) = true := bne_iff_ne.2 hE
    have HQ := Lib.hid (And.intro hEE.symm hE)
    clear hEE hE hS2 hTT hFR hFF heC heB heS heT hMM h0 h hks hN0 hsh hax hhi
    unfold plC
    go_enter Tryz.func10, Tryz.ntmps10
    go_wp2_with (refine ld_pln rfl (.tmp 3) rfl w.heap.size rfl HR1.out ?_)
    go_at_call 25
    (with_reducible refine (LI.out _ ?_).mono ?_)
    · exact H0.out.below B0.out.below
    rintro e w2 ⟨aL, mL, cL, rfl, hk6, hb2⟩
    have BB := Lib.hid (B0.out.go hb2)
    have HZ := Lib.hid BB.out.now.1
    have HE := Lib.hid (HNO.out E0 _ HQ.out.1 HQ.out.2 BB.out.below)
    clear hb2 hk6
    go_wp2_with (refine st_pln rfl (.tmp 6) (.tmp 25) rfl (w.heap.size + 1 + 1) rfl none 0 0 false none 0 0 none 0 0 rfl HZ.out rfl ?_)
    exact bodyPost_ret (res_pln2 Tryz.results10 rfl rfl (HZ.out.put _) rfl) rfl HE.out
end Go.Proofs.YtpmcbnliogjknaaGreatDoor
