/-
  Texts of this seat, laid together.
-/
import Derived.ProofKit
import Derived.Carry
import Derived.Deep.Strs
import Derived.OpenShut
import Derived.Test.YtpmcbnliogjknaaGreatDoorRows
import Derived.Deep.Slices
import Derived.Lib.SmallJoins
import Derived.Test.YtpmcbnliogjknaaGreatDoorQ1
import Derived.Test.YtpmcbnliogjknaaGreatDoorQ2
import Derived.Test.YtpmcbnliogjknaaGreatDoorQ3
import Derived.Test.YtpmcbnliogjknaaGreatDoorQ4
import Derived.Test.YtpmcbnliogjknaaGreatDoorQ5
import Derived.Test.YtpmcbnliogjknaaGreatDoorQ6
import Derived.Test.YtpmcbnliogjknaaGreatDoorQ7
import Derived.Test.YtpmcbnliogjknaaGreatDoorQ8
import Derived.Test.YtpmcbnliogjknaaGreatDoorQ9
import Derived.Test.YtpmcbnliogjknaaGreatDoorQ10

namespace Go.Proofs.YtpmcbnliogjknaaGreatDoor
open Go.RowKit
theorem kpN_ones {f : Nat → Int} : ∀ {n : Nat}, (∀ j, j < n → f j = 1) → kpN f n = n
  | 0, _ => rfl
  | n + 1, h => by
    show (if f n = 1 then kpN f n + 1 else kpN f n) = n + 1
    rw [if_pos (h n (by omega)), kpN_ones (fun j hj => h j (by omega))]
theorem kpN_none {f : Nat → Int} : ∀ {n : Nat}, (∀ j, j < n → f j ≠ 1) → kpN f n = 0
  | 0, _ => rfl
  | n + 1, h => by
    show (if f n = 1 then kpN f n + 1 else kpN f n) = 0
    rw [if_neg (h n (by omega)), kpN_none (fun j hj => h j (by omega))]
theorem kpN_congr {f f' : Nat → Int} : ∀ {n : Nat}, (∀ j, j < n → f j = f' j) → kpN f n = kpN f' n
  | 0, _ => rfl
  | n + 1, h => by
    show (if f n = 1 then kpN f n + 1 else kpN f n) = (if f' n = 1 then kpN f' n + 1 else kpN f' n)
    rw [h n (by omega), kpN_congr (fun j hj => h j (by omega))]
theorem ax_congr9 {f f' : Nat → Int} : ∀ {n : Nat}, (∀ j, j < n → f j = f' j) → axB f n = axB f' n ∧ rm f n = rm f' n
  | 0, _ => ⟨rfl, rfl⟩
  | n + 1, h => by
    obtain ⟨h1, h2⟩ := ax_congr9 (n := n) (fun j hj => h j (by omega))
    have e : rm f (n + 1) = rm f' (n + 1) := by
      show rm f n * max (f n) 1 = rm f' n * max (f' n) 1
      rw [h2, h n (by omega)]
    refine ⟨?_, e⟩
    show (axB f n && (decide (0 ≤ f n) && decide (rm f (n + 1) ≤ 4096))) = (axB f' n && (decide (0 ≤ f' n) && decide (rm f' (n + 1) ≤ 4096)))
    rw [h1, e, h n (by omega)]
theorem sh_congr {f f' : Nat → Int} {n : Nat} (h : ∀ j, j < n → f j = f' j) : shB f n = shB f' n := by
  unfold shB
  rw [(ax_congr9 h).1]
theorem mod_in {x N : Nat} (h : N = 1 ∨ x < N) : ((x % N : Nat) : Int) = if N = 1 then 0 else (x : Int) := by
  by_cases e : N = 1
  · rw [if_pos e, e, Nat.mod_one]; rfl
  · rw [if_neg e, Nat.mod_eq_of_lt (h.resolve_left e)]
set_option linter.unusedSimpArgs false in
set_option linter.unusedVariables false in
set_option maxHeartbeats 6400000 in
set_option maxRecDepth 100000 in
theorem rexpanded_any (cs : Array Value) (S : Nat → Int) (r : Nat) (ch : Bool) (L : Nat) (g : Nat → Int) (fB : Nat → Bool) (fS fT : Nat → ByteArray) (k : Nat) (aL : Option Addr) (L0 cL : Nat) (P0 : Nat → Int) (N : Nat) (w : World)
    (h : Pln w cs S r ch L g fB fS fT) (hk : k < r) (hsh : shB S r = true) (hl0 : KRow w .i64 aL L0 cL P0) (hf : ∀ j, j < L0 → P0 j = 0 ∨ P0 j = 1) (hL0 : L0 ≤ 4096) (hN : N ≤ 4096) (hL : L ≤ 1000000) :
    Calls Tryz.prog 34 #[.agg cs, .int .i64 k, .slice aL L0 cL, .int .i64 (kpN P0 L0 : Nat), .int .i64 (N : Nat)] w fun e w' => PoTold (if wcB true P0 L0 N = true then pkE (gaT S k L0) r else 24) (gaT S k L0) r ch (itm (gaT S k L0) r).toNat (fun j => elC L g 32 (pkG S (gaT S k L0) r (gaF k (wcH true P0 L0 N)) j)) (fun j => elB L fB (pkG S (gaT S k L0) r (gaF k (wcH true P0 L0 N)) j)) (fun j => elS L fS (rS 0) (pkG S (gaT S k L0) r (gaF k (wcH true P0 L0 N)) j)) (fun j => elS L fT (str (dec 1)) (pkG S (gaT S k L0) r (gaF k (wcH true P0 L0 N)) j)) w w' e := by
  obtain ⟨sa, sc, ta, tc, na, nc, hcs, _⟩ := h.form
  subst hcs
  have HP := Lib.hid h
  have hl := hl0.len
  have hkn := kpN_le P0 L0
  have HF := Lib.hid hf
  have BB := Lib.hid ((((Bag.start w).krow hl0).newRow (plC sa r sc ch ta (tnO ch L) tc na (nnO ch L) nc) 26).newRow plZer 26)
  simp only [World.size_alloc] at BB
  have GA := Lib.hid (fun aH cH wz (p : Pln wz (plC sa r sc ch ta (tnO ch L) tc na (nnO ch L) nc) S r ch L g fB fS fT) (q : KRow wz .i64 aH L0 cH (wcH true P0 L0 N)) => rGather_any (plC sa r sc ch ta (tnO ch L) tc na (nnO ch L) nc) S r ch L g fB fS fT k aH L0 cH (wcH true P0 L0 N) wz p hk hsh q (by omega) hL)
  have HX : Hid (∀ q, wcH true P0 L0 N q = if P0 q = 1 then ((kpN P0 q % N : Nat) : Int) else -1) := Lib.hid (fun q => rfl)
  have HBW : wcB true P0 L0 N = (decide (N = 1) || decide (kpN P0 L0 = N)) := rfl
  obtain ⟨TT, hTT⟩ : ∃ f, gaT S k L0 = f := ⟨_, rfl⟩
  obtain ⟨H, hH⟩ : ∃ f, wcH true P0 L0 N = f := ⟨_, rfl⟩
  obtain ⟨G, hG⟩ : ∃ f, pkG S TT r (gaF k H) = f := ⟨_, rfl⟩
  obtain ⟨EE, hEE⟩ : ∃ E, (if wcB true P0 L0 N = true then pkE TT r else 24) = E := ⟨_, rfl⟩
  obtain ⟨eC, heC⟩ : ∃ f : Nat → Int, (fun j => elC L g 32 (G j)) = f := ⟨_, rfl⟩
  obtain ⟨eB, heB⟩ : ∃ f : Nat → Bool, (fun j => elB L fB (G j)) = f := ⟨_, rfl⟩
  obtain ⟨eS, heS⟩ : ∃ f : Nat → ByteArray, (fun j => elS L fS (rS 0) (G j)) = f := ⟨_, rfl⟩
  obtain ⟨eT, heT⟩ : ∃ f : Nat → ByteArray, (fun j => elS L fT (str (dec 1)) (G j)) = f := ⟨_, rfl⟩
  obtain ⟨MM, hMM⟩ : ∃ E, (itm TT r).toNat = E := ⟨_, rfl⟩
  rw [hTT, hH, hG, hEE, heC, heB, heS, heT, hMM]
  rw [hTT, hH, hG, heC, heB, heS, heT, hMM] at GA
  rw [hH] at HX
  have HNO : Hid (∀ (E : Int) wz, EE = E → E ≠ 0 → Below w.heap.size w wz → PoTold EE TT r ch MM eC eB eS eT w (wz.setRow (w.heap.size + 1) plZer) (.returned (.tuple #[.agg plZer, .int .i64 E]))) := Lib.hid (fun E wz e hE hb => by
    subst e
    exact PoTold.no hE (below_put hb (show w.heap.size ≤ w.heap.size + 1 by omega) plZer))
  by_cases hc : N = 1 ∨ kpN P0 L0 = N
  · have hB : wcB true P0 L0 N = true := by rw [HBW, Bool.or_eq_true, decide_eq_true_eq, decide_eq_true_eq]; exact hc
    rw [hB, if_pos rfl] at hEE
    rw [hEE] at GA
    have HV : Hid (∀ q, q < L0 → (P0 q = 1 → H q = if N = 1 then 0 else ((kpN P0 q : Nat) : Int)) ∧ (P0 q ≠ 1 → H q = -1)) := Lib.hid (fun q hq => by
      constructor
      · intro e
        rw [HX.out q, if_pos e]
        refine mod_in (hc.imp id (fun h => ?_))
        have := kpN_lt hq e
        omega
      · intro e
        rw [HX.out q, if_neg e])
    have hd : ((N : Int) != 1) = false ∨ (((N : Int) != 1) = true ∧ ((kpN P0 L0 : Int) != (N : Int)) = false) := by
      by_cases e : N = 1
      · exact .inl (by subst e; rfl)
      · exact .inr ⟨bne_iff_ne.2 (by omega), by rw [show kpN P0 L0 = N from hc.resolve_left e]; exact bne_self_eq_false _⟩
    clear h hk hsh hl0 hf hTT hH hG hEE heC heB heS heT hMM HBW hB hc HX
    unfold plC
    rcases hd with dN | ⟨dN, dK⟩
    all_goals
      go_enter Tryz.func34, Tryz.ntmps34
      go_wp2_with fail
      have BY := Lib.hid BB.out
      generalize hYY : (World.alloc (World.alloc w _) _) = YY at *
      have BY : Hid (Bag w (fun y => Row y (w.heap.size + 1) 26 plZer ∧ Row y w.heap.size 26 (plC sa r sc ch ta (tnO ch L) tc na (nnO ch L) nc) ∧ KRow y .i64 aL L0 cL P0 ∧ True) YY) := by subst hYY; exact BB
      have HYY := Lib.hid hYY
      clear hYY
      go_loopw [12, 13, 14] (fun s nx i wr => ∃ (q : Nat) (a : Option Addr) (c : Nat), q ≤ L0 ∧ s = .slice a q c ∧ i = .int .i64 q ∧ (∃ v, v = nx) ∧ (N ≠ 1 → nx = .int .i64 (kpN P0 q : Nat)) ∧ Hid (OwnI YY wr a q c H)) (fun _ _ i _ => L0 - (intOf i).toNat)
      case atStart =>
        have hYY := HYY.out
        subst hYY
        exact ⟨0, none, 0, by omega, rfl, rfl, ⟨_, rfl⟩, fun _ => rfl, OwnI.nil _ _⟩
      case round =>
        obtain ⟨q, a, c, hq, rfl, rfl, ⟨v13, rfl⟩, hnx, ho⟩ := hrel
        have BW := Lib.hid (BY.out.go ho.out.1)
        by_cases hlt : q < L0
        · obtain ⟨b, off, hab, hb, hc⟩ := BW.out.now.2.2.1.get hlt
          cases hab
          have hq0 : (0 : Int) ≤ q := by omega
          have hq1 : (q : Int) < L0 := by omega
          obtain ⟨hv1, hv2⟩ := HV.out q hlt
          have hql := kpN_le P0 q
          by_cases e : P0 q = 1
          · have hv := hv1 e
            have hs : kpN P0 (q + 1) = kpN P0 q + 1 := by show (if P0 q = 1 then _ else _) = _; rw [if_pos e]
            rw [e] at hc
            by_cases e1 : N = 1
            · rw [if_pos e1] at hv
              have d1 : ((N : Int) == 1) = true := beq_iff_eq.2 (by omega)
              obtain ⟨a', c', y3, hr3, ho'⟩ := app1_step ho.out hv.symm (by omega)
              have HO' := Lib.hid ho'
              have HN1 := Lib.hid e1
              clear ho ho' hv hv1 hv2 hs e e1 hnx dN
              go_wp2_with (at_builtin; refine Lib.wpList_append_run _ rfl _ _ _ _ rfl _ _ rfl rfl _ _ hr3 ?_)
              go_roundw
              case rel => exact ⟨q + 1, a', c', by omega, rfl, by go_num, ⟨_, rfl⟩, fun h => absurd HN1.out h, HO'⟩
              case measure => simp [intOf]; omega
            · rw [if_neg e1] at hv
              have d1 : ((N : Int) == 1) = false := beq_eq_false_iff_ne.2 (by omega)
              have hnx := hnx e1
              subst hnx
              obtain ⟨a', c', y3, hr3, ho'⟩ := app1_step ho.out hv.symm (by omega)
              have HO' := Lib.hid ho'
              have HS := Lib.hid hs
              clear ho ho' hv hv1 hv2 hs e e1 dN
              generalize kpN P0 q = z at *
              have w9 := IntWalk.i64_in ((z : Int) + 1) (by omega)
              go_wp2_with (at_builtin; refine Lib.wpList_append_run _ rfl _ _ _ _ rfl _ _ rfl rfl _ _ hr3 ?_)
              go_roundw
              case rel => exact ⟨q + 1, a', c', by omega, rfl, by go_num, ⟨_, rfl⟩, fun _ => by rw [HS.out]; go_num, HO'⟩
              case measure => simp [intOf]; omega
          · have hv := hv2 e
            have h0 : P0 q = 0 := (HF.out q hlt).resolve_right e
            have hs : kpN P0 (q + 1) = kpN P0 q := by show (if P0 q = 1 then _ else _) = _; rw [if_neg e]
            obtain ⟨a', c', y3, hr3, ho'⟩ := app1_step ho.out hv.symm (by omega)
            have HO' := Lib.hid ho'
            have HS := Lib.hid hs
            have HNX := Lib.hid hnx
            rw [h0] at hc
            clear ho ho' hv hv1 hv2 hs e h0 hnx
            go_wp2_with (at_builtin; refine Lib.wpList_append_run _ rfl _ _ _ _ rfl _ _ rfl rfl _ _ hr3 ?_)
            go_roundw
            case rel => exact ⟨q + 1, a', c', by omega, rfl, by go_num, ⟨_, rfl⟩, fun h => by rw [HS.out]; exact HNX.out h, HO'⟩
            case measure => simp [intOf]; omega
        · have hql : q = L0 := by omega
          subst q
          have HKK := Lib.hid ho.out.krow
          have HR9 := Lib.hid BW.out.now.2.1
          clear ho hlt hq hnx
          go_wp2_with (refine ld_pln rfl (.tmp 5) rfl w.heap.size rfl HR9.out ?_)
          go_at_call 35
          (refine (GA.out _ _ _ (HP.out.below BW.out.below) HKK.out).mono ?_)
          rintro e w9 hpt
          obtain ⟨x9, rfl, hip, hp9, hz9, hb9⟩ := hpt.res2
          have B9 := BW.out.go hb9
          have HZ := Lib.hid B9.now.1
          have HE : Hid (PoTold EE TT r ch MM eC eB eS eT w (w9.setRow (w.heap.size + 1) x9) (.returned (.tuple #[.agg x9, .int .i64 EE]))) := Lib.hid ⟨x9, rfl, fun e => (hp9 e).put HZ.out x9, hz9, below_put B9.below (show w.heap.size ≤ w.heap.size + 1 by omega) x9⟩
          obtain ⟨q1, q2, q3, q4, q5, q6, q7, q8, q9, q10, hx9⟩ := hip
          subst hx9
          clear hpt hp9 hz9 hb9 B9
          go_wp2_with (refine st_pln rfl (.tmp 10) (.tmp 52) rfl (w.heap.size + 1) rfl _ _ _ _ _ _ _ _ _ _ rfl HZ.out rfl ?_)
          exact bodyPost_ret (res_pln2 Tryz.results34 rfl rfl (HZ.out.put _) rfl) rfl HE.out
  · have hB : wcB true P0 L0 N = false := by rw [HBW, decide_eq_false (fun e => hc (.inl e)), decide_eq_false (fun e => hc (.inr e))]; rfl
    rw [hB, if_neg (by decide)] at hEE
    have HQ := Lib.hid hEE.symm
    have dN : ((N : Int) != 1) = true := bne_iff_ne.2 (fun e => hc (.inl (by omega)))
    have dK : ((kpN P0 L0 : Int) != (N : Int)) = true := bne_iff_ne.2 (fun e => hc (.inr (by omega)))
    clear h hk hsh hl0 hf hTT hH hG hEE heC heB heS heT hMM HBW hB hc HX GA
    generalize kpN P0 L0 = z at *
    unfold plC
    go_enter Tryz.func34, Tryz.ntmps34
    have HZ := Lib.hid BB.out.now.1
    have HE := Lib.hid (HNO.out 24 _ HQ.out (by decide) BB.out.below)
    go_wp2_with (refine st_pln rfl (.tmp 10) (.tmp 22) rfl (w.heap.size + 1) rfl none 0 0 false none 0 0 none 0 0 rfl HZ.out rfl ?_)
    exact bodyPost_ret (res_pln2 Tryz.results34 rfl rfl (HZ.out.put _) rfl) rfl HE.out
set_option linter.unusedSimpArgs false in
set_option linter.unusedVariables false in
set_option maxHeartbeats 6400000 in
set_option maxRecDepth 100000 in
theorem rMasked_any (ex : Bool) (cs0 : Array Value) (S0 : Nat → Int) (r0 : Nat) (ch0 : Bool) (L0 : Nat) (g0 : Nat → Int) (fB0 : Nat → Bool) (fS0 fT0 : Nat → ByteArray) (P0 : Nat → Int) (Q0 : Nat → Nat) (cs : Array Value) (S : Nat → Int) (r : Nat) (ch : Bool) (L : Nat) (g : Nat → Int) (fB : Nat → Bool) (fS fT : Nat → ByteArray) (i : Int) (w : World)
    (h0 : Pln w cs0 S0 r0 ch0 L0 g0 fB0 fS0 fT0) (hN0 : NumOk fB0 fS0 fT0 P0 Q0 (nnO ch0 L0)) (hL0 : L0 ≤ 4096) (h : Pln w cs S r ch L g fB fS fT) (hsh : shB S r = true) (hL : L ≤ 1000000) :
    Calls Tryz.prog 14 #[.agg cs0, .agg cs, .int .i64 i, .bool ex] w fun e w' => PoTold (cfE ex r0 ch0 L0 P0 Q0 S r i) (gaT (cfS r i S) (cfK r i) (wcM ex P0 L0 (cfM r i S))) (cfR r i) ch (itm (gaT (cfS r i S) (cfK r i) (wcM ex P0 L0 (cfM r i S))) (cfR r i)).toNat
      (fun j => elC L g 32 (pkG (cfS r i S) (gaT (cfS r i S) (cfK r i) (wcM ex P0 L0 (cfM r i S))) (cfR r i) (gaF (cfK r i) (wcH ex P0 L0 (cfM r i S))) j)) (fun j => elB L fB (pkG (cfS r i S) (gaT (cfS r i S) (cfK r i) (wcM ex P0 L0 (cfM r i S))) (cfR r i) (gaF (cfK r i) (wcH ex P0 L0 (cfM r i S))) j))
      (fun j => elS L fS (rS 0) (pkG (cfS r i S) (gaT (cfS r i S) (cfK r i) (wcM ex P0 L0 (cfM r i S))) (cfR r i) (gaF (cfK r i) (wcH ex P0 L0 (cfM r i S))) j)) (fun j => elS L fT (str (dec 1)) (pkG (cfS r i S) (gaT (cfS r i S) (cfK r i) (wcM ex P0 L0 (cfM r i S))) (cfR r i) (gaF (cfK r i) (wcH ex P0 L0 (cfM r i S))) j)) w w' e := by
  obtain ⟨sb, sbc, tb, tbc, nb, nbc, hcs0, _⟩ := h0.form
  subst hcs0
  obtain ⟨sa, sc, ta, tc, na, nc, hcs, hks⟩ := h.form
  subst hcs
  obtain ⟨h8, hax⟩ := sh_ax hsh
  have H0 := Lib.hid h0
  have H := Lib.hid h
  have LI := Lib.hid (fun wz (q : Pln wz (plC sb r0 sbc ch0 tb (tnO ch0 L0) tbc nb (nnO ch0 L0) nbc) S0 r0 ch0 L0 g0 fB0 fS0 fT0) => rlist_any (plC sb r0 sbc ch0 tb (tnO ch0 L0) tbc nb (nnO ch0 L0) nbc) S0 r0 ch0 L0 g0 fB0 fS0 fT0 P0 Q0 wz q hN0 (by omega))
  unfold LiTold at LI
  have B0 := Lib.hid (((((Bag.start w).krow hks).newRow (plC sb r0 sbc ch0 tb (tnO ch0 L0) tbc nb (nnO ch0 L0) nbc) 26).newRow (plC sa r sc ch ta (tnO ch L) tc na (nnO ch L) nc) 26).newRow plZer 26)
  simp only [World.size_alloc] at B0
  have HR1 := Lib.hid B0.out.now.2.2.1
  have hhi : whC ch0 L0 P0 Q0 = true → In64 P0 L0 := whC_in
  obtain ⟨RR, hRR⟩ : ∃ q, cfR r i = q := ⟨_, rfl⟩
  obtain ⟨S2, hS2⟩ : ∃ q, cfS r i S = q := ⟨_, rfl⟩
  obtain ⟨k', hk⟩ : ∃ q, cfK r i = q := ⟨_, rfl⟩
  obtain ⟨N, hN⟩ : ∃ q, cfM r i S = q := ⟨_, rfl⟩
  obtain ⟨mW, hmW⟩ : ∃ q, wcM ex P0 L0 N = q := ⟨_, rfl⟩
  obtain ⟨hW, hhW⟩ : ∃ q, wcH ex P0 L0 N = q := ⟨_, rfl⟩
  obtain ⟨TT, hTT⟩ : ∃ f, gaT S2 k' mW = f := ⟨_, rfl⟩
  obtain ⟨EE, hEE⟩ : ∃ E, cfE ex r0 ch0 L0 P0 Q0 S r i = E := ⟨_, rfl⟩
  rw [hEE, hRR, hS2, hk, hN, hmW, hhW, hTT]
  unfold cfE at hEE
  rw [hRR, hN] at hEE
  obtain ⟨G, hG⟩ : ∃ f, pkG S2 TT RR (gaF k' hW) = f := ⟨_, rfl⟩
  obtain ⟨eC, heC⟩ : ∃ f : Nat → Int, (fun j => elC L g 32 (G j)) = f := ⟨_, rfl⟩
  obtain ⟨eB, heB⟩ : ∃ f : Nat → Bool, (fun j => elB L fB (G j)) = f := ⟨_, rfl⟩
  obtain ⟨eS, heS⟩ : ∃ f : Nat → ByteArray, (fun j => elS L fS (rS 0) (G j)) = f := ⟨_, rfl⟩
  obtain ⟨eT, heT⟩ : ∃ f : Nat → ByteArray, (fun j => elS L fT (str (dec 1)) (G j)) = f := ⟨_, rfl⟩
  obtain ⟨MM, hMM⟩ : ∃ E, (itm TT RR).toNat = E := ⟨_, rfl⟩
  rw [hG, heC, heB, heS, heT, hMM]
  have HNO : Hid (∀ (E : Int) wz, EE = E → E ≠ 0 → Below w.heap.size w wz → PoTold EE TT RR ch MM eC eB eS eT w (wz.setRow (w.heap.size + 1 + 1) plZer) (.returned (.tuple #[.agg plZer, .int .i64 E]))) := Lib.hid (fun E wz e hE hb => by
    subst e
    exact PoTold.no hE (below_put hb (show w.heap.size ≤ w.heap.size + 1 + 1 by omega) plZer))
  have hsh2 : shB S2 RR = true := by
    rw [← hS2, ← hRR]
    unfold cfS cfR
    split
    · exact (sh_ones (show 1 ≤ 8 by omega)).1
    · exact hsh
  have h82 := (sh_ax hsh2).1
  have HSX : ∀ j, j < RR → 0 ≤ S2 j ∧ S2 j ≤ 4096 := fun j hj => ax_le4 hsh2 hj
  have hNk : N = (S2 k').toNat := by rw [← hN, ← hS2, ← hk]; rfl
  have hcfE : cfE ex r0 ch0 L0 P0 Q0 S r i = cfE ex r0 ch0 L0 P0 Q0 S r i := rfl
  have hpkT : pkE (lnF (cfN ex P0 L0 r i S)) RR = pkE TT RR := by
    have : ∀ j, j < RR → lnF (cfN ex P0 L0 r i S) j = TT j := fun j hj => by
      have h1 := HSX j hj
      rw [← hTT]
      unfold gaT wiF
      show (((if j = cfK r i then wcM ex P0 L0 (cfM r i S) else (cfS r i S j).toNat : Nat)) : Int) = _
      rw [hk, hN, hmW, hS2]
      by_cases e : j = k'
      · rw [if_pos e, if_pos (by omega)]
      · rw [if_neg e, if_neg (by omega)]; omega
    unfold pkE
    rw [sh_congr this]
  rw [hpkT] at hEE
  clear hcfE hpkT
  by_cases hE : liE r0 (whC ch0 L0 P0 Q0) = 0
  · have hin := hhi (liE_whole hE)
    rw [if_pos hE] at hEE
    rw [hE] at LI
    clear hE hhi
    have HE22 : Hid (nfA P0 L0 = true → EE = 22) := Lib.hid (fun e => by rw [if_pos e] at hEE; exact hEE.symm)
    have hEE : nfA P0 L0 = false → (if axQ RR i = true then (if wcB ex P0 L0 N = true then pkE TT RR else 24) else 23) = EE := fun e => by rw [if_neg (by rw [e]; decide)] at hEE; exact hEE
    have HP64 : Hid (∀ j, j < L0 → -9223372036854775808 ≤ P0 j ∧ P0 j ≤ 9223372036854775807) := Lib.hid (fun j hj => hin j hj)
    have HKS := Lib.hid hks
    have HX1 := Lib.hid hEE
    have HX2 := Lib.hid (And.intro hTT (And.intro hG (And.intro heC (And.intro heB (And.intro heS (And.intro heT hMM))))))
    have HX3 := Lib.hid (And.intro hsh2 (And.intro HSX (And.intro hmW (And.intro hhW hNk))))
    have HX4 := Lib.hid (And.intro hRR (And.intro hS2 hk))
    clear hEE hin h0 h hN0 hks hsh hax hTT hG heC heB heS heT hMM hsh2 HSX hmW hhW hRR hS2 hk hN hNk
    unfold plC
    go_enter Tryz.func14, Tryz.ntmps14
    go_wp2_with (refine ld_pln rfl (.tmp 4) rfl w.heap.size rfl HR1.out ?_)
    go_at_call 25
    (with_reducible refine (LI.out _ ?_).mono ?_)
    · exact H0.out.below B0.out.below
    rintro e w2 ⟨aL, mL, cL, rfl, hk6, hb2⟩
    obtain ⟨hm6, hk7⟩ := hk6 trivial
    clear hk6
    subst mL
    have BB := Lib.hid (B0.out.go hb2)
    have BB : Hid (Bag w (fun y => Row y (w.heap.size + 1 + 1) 26 plZer ∧ Row y (w.heap.size + 1) 26 (plC sa r sc ch ta (tnO ch L) tc na (nnO ch L) nc) ∧ KRow y .i64 aL L0 cL P0 ∧ KRow y .i64 sa r sc S ∧ True) w2) := Lib.hid ⟨BB.out.below, fun a b hb ⟨h1, h2, h3, h4, _⟩ => ⟨h1.below hb, h2.below hb, h3.below hb, h4.below hb, trivial⟩, BB.out.now.1, BB.out.now.2.1, hk7, BB.out.now.2.2.2.1, trivial⟩
    have hl := hk7.len
    clear hk7 hb2
    go_wp2_with fail
    go_loopw [12, 13] (fun s ii wr => ∃ k : Nat, k ≤ L0 ∧ ii = .int .i64 k ∧ s = .int .i64 (kpN P0 k : Nat) ∧ Hid (nfA P0 k = false ∧ Below w2.heap.size w2 wr)) (fun _ ii _ => L0 - (intOf ii).toNat)
    case atStart => exact ⟨0, by omega, rfl, rfl, rfl, Below.refl _ _⟩
    case round =>
      obtain ⟨k, hk, rfl, rfl, hrel⟩ := hrel
      obtain ⟨hnf, hbl⟩ := hrel.out
      have BB := Lib.hid (BB.out.go hbl)
      by_cases hlt : k < L0
      · obtain ⟨b2, o2, hab, hb2, hc2⟩ := BB.out.now.2.2.1.get hlt
        cases hab
        have hk0 : (0 : Int) ≤ k := by omega
        have hk1 : (k : Int) < L0 := by omega
        have hp := HP64.out k hlt
        have hkl := kpN_le P0 k
        have HBL := Lib.hid hbl
        cases hq : nfB (P0 k) with
        | true =>
          have HQ := Lib.hid (HE22.out (nfA_no hlt hq))
          have hq2 := hq
          unfold nfB at hq2
          rw [Bool.and_eq_true, decide_eq_true_eq, decide_eq_true_eq] at hq2
          have d0 : (P0 k != 0) = true := bne_iff_ne.2 hq2.1
          have d1 : (P0 k != 1) = true := bne_iff_ne.2 hq2.2
          clear hrel hnf hbl hq hq2
          generalize P0 k = p at *
          generalize kpN P0 k = z at *
          have HZ := Lib.hid BB.out.now.1
          have HE := Lib.hid (HNO.out 22 _ HQ.out (by decide) BB.out.below)
          go_wp2_with (refine st_pln rfl (.tmp 8) (.tmp 47) rfl (w.heap.size + 1 + 1) rfl none 0 0 false none 0 0 none 0 0 rfl HZ.out rfl ?_)
          exact bodyPost_ret (res_pln2 Tryz.results14 rfl rfl (HZ.out.put _) rfl) rfl HE.out
        | false =>
          have hs : ((kpN P0 (k + 1) : Nat) : Int) = kpN P0 k + P0 k := by
            show ((if P0 k = 1 then kpN P0 k + 1 else kpN P0 k : Nat) : Int) = _
            rcases nfB_no.1 hq with e | e
            · rw [e, if_neg (by decide)]; omega
            · rw [e, if_pos rfl]; omega
          have hnf2 : nfA P0 (k + 1) = false := by show (nfA P0 k || nfB (P0 k)) = false; rw [hnf, hq]; rfl
          have hd := nfB_no.1 hq
          have HN := Lib.hid (And.intro hnf2 hbl)
          have HS := Lib.hid hs
          have w1 := IntWalk.i64_in ((kpN P0 k : Int) + P0 k) (by omega)
          clear hrel hnf hbl hq hnf2 hs
          generalize P0 k = p at *
          generalize kpN P0 k = z at *
          rcases hd with rfl | rfl
          all_goals
            go_wp2
            go_roundw
            case rel => exact ⟨k + 1, by omega, by go_num, by simp [HS.out], HN.out⟩
            case measure => simp [intOf]; omega
      · have hkl : k = L0 := by omega
        subst k
        have hfl := nfA_iff.1 hnf
        have HF := Lib.hid hfl
        have hEE := HX1.out hnf
        obtain ⟨hRR, hS2, hk9⟩ := HX4.out
        obtain ⟨hsh2, HSX, hmW, hhW, hNk⟩ := HX3.out
        have HBL := Lib.hid hbl
        clear hrel hbl hnf hlt hk HX1 HX4
        cases hq : axQ RR i with
        | false =>
          rw [hq, if_neg (by decide)] at hEE
          have HQ := Lib.hid hEE.symm
          have hnA : ¬ (r = 0 ∧ i ≤ 0) := fun hA => by
            have hR : RR = 1 := by rw [← hRR]; unfold cfR; rw [if_pos hA]
            rw [hR, (ax_one hA.2).2] at hq
            cases hq
          have hR : RR = r := by rw [← hRR]; unfold cfR; rw [if_neg hnA]
          rw [hR] at hq
          have AX := Lib.hid (fun wz (q : Pln wz (plC sa r sc ch ta (tnO ch L) tc na (nnO ch L) nc) S r ch L g fB fS fT) => rAxis_any (plC sa r sc ch ta (tnO ch L) tc na (nnO ch L) nc) S r ch L g fB fS fT i wz q (by omega))
          rw [hq] at AX
          generalize axI r i = ai at *
          have x1 : wr.cell? ⟨w.heap.size + 1, 0, none⟩ = some (.slice sa r sc) := BB.out.now.2.1.cell 0
          have HR5 := Lib.hid BB.out.now.2.1
          have HA := Lib.hid (H.out.below BB.out.below)
          have hd : ((((r : Nat) : Int) == 0) = true ∧ ¬ i ≤ 0) ∨ (((r : Nat) : Int) == 0) = false := by
            by_cases e : r = 0
            · exact .inl ⟨beq_iff_eq.2 (by omega), fun e2 => hnA ⟨e, e2⟩⟩
            · exact .inr (beq_eq_false_iff_ne.2 (by omega))
          clear hEE hRR hS2 hk9 hsh2 HSX hmW hhW hNk hnA hR hq hfl
          rcases hd with ⟨d0, di⟩ | d0
          all_goals
            go_wp2_with (refine ld_pln rfl (.tmp 5) rfl (w.heap.size + 1) rfl HR5.out ?_)
            go_at_call 33
            (with_reducible refine (AX.out _ ?_).mono ?_)
            · exact HA.out
            rintro e w5 ⟨rfl, hb5⟩
            have BB := Lib.hid (BB.out.go hb5)
            clear hb5
            have HZ := Lib.hid BB.out.now.1
            have HE := Lib.hid (HNO.out 23 _ HQ.out (by decide) BB.out.below)
            go_wp2_with (refine st_pln rfl (.tmp 8) (.tmp 72) rfl (w.heap.size + 1 + 1) rfl none 0 0 false none 0 0 none 0 0 rfl HZ.out rfl ?_)
            exact bodyPost_ret (res_pln2 Tryz.results14 rfl rfl (HZ.out.put _) rfl) rfl HE.out
        | true =>
          rw [hq, if_pos rfl] at hEE
          obtain ⟨k2, hk1, hkr⟩ := axQ_yes hq
          have hkk : k2 = k' := by rw [← hk9]; unfold cfK; rw [hRR, hk1]; rfl
          subst hkk
          have HKX := HSX k2 hkr
          have HSN : Hid (S2 k2 = (N : Nat)) := Lib.hid (by omega)
          have hN4 : N ≤ 4096 := by omega
          have HRX : Hid ((r = 0 ∧ i ≤ 0 → RR = 1 ∧ S2 = (fun _ => 1)) ∧ (¬ (r = 0 ∧ i ≤ 0) → RR = r ∧ S2 = S)) := Lib.hid ⟨fun hA => ⟨by rw [← hRR]; unfold cfR; rw [if_pos hA], by rw [← hS2]; unfold cfS; rw [if_pos hA]⟩, fun hA => ⟨by rw [← hRR]; unfold cfR; rw [if_neg hA], by rw [← hS2]; unfold cfS; rw [if_neg hA]⟩⟩
          obtain ⟨hTT, hG, heC, heB, heS, heT, hMM⟩ := HX2.out
          have hmle := wcM_le (ex := ex) (f := P0) hL0 hN4
          rw [hmW] at hmle
          -- what the plain array in block w.heap.size + 1 is: X
          have XPX : Hid (∀ X, ex = true → ∀ wz aL cL, Pln wz X S2 RR ch L g fB fS fT → KRow wz .i64 aL L0 cL P0 → Calls Tryz.prog 34 #[.agg X, .int .i64 (k2 : Nat), .slice aL L0 cL, .int .i64 (kpN P0 L0 : Nat), .int .i64 (N : Nat)] wz fun e w' => PoTold EE TT RR ch MM eC eB eS eT wz w' e) := Lib.hid (fun X hex wz aL cL p q => by
            have := rexpanded_any X S2 RR ch L g fB fS fT k2 aL L0 cL P0 N wz p hkr hsh2 q hfl hL0 hN4 hL
            subst hex
            have hm : mW = L0 := by rw [← hmW]; rfl
            rw [hm] at hTT
            rw [hTT, hhW, hG, heC, heB, heS, heT, hMM, hEE] at this
            exact this)
          have GAX : Hid (∀ X, ex = false → (L0 = 1 ∨ N = 1 ∨ L0 = N) → ∀ aH cH wz, Pln wz X S2 RR ch L g fB fS fT → KRow wz .i64 aH mW cH hW → Calls Tryz.prog 35 #[.agg X, .int .i64 (k2 : Nat), .slice aH mW cH] wz fun e w' => PoTold EE TT RR ch MM eC eB eS eT wz w' e) := Lib.hid (fun X hex hor aH cH wz p q => by
            have := rGather_any X S2 RR ch L g fB fS fT k2 aH mW cH hW wz p hkr hsh2 q (by omega) hL
            subst hex
            have hb : wcB false P0 L0 N = true := by
              show (decide (N = 1) || decide (wcL L0 N = N)) = true
              rw [Bool.or_eq_true, decide_eq_true_eq, decide_eq_true_eq]
              unfold wcL
              rcases hor with e | e | e
              · rw [if_pos e]; exact .inr rfl
              · exact .inl e
              · split
                · exact .inr rfl
                · exact .inr e
            rw [hb, if_pos rfl] at hEE
            rw [hTT, hG, heC, heB, heS, heT, hMM, hEE] at this
            exact this)
          have HE24 : Hid (ex = false → ¬ (L0 = 1 ∧ N ≠ 1) → ¬ (N = 1 ∨ L0 = N) → EE = 24) := Lib.hid (fun hex ho hf => by
            subst hex
            have hb : wcB false P0 L0 N = false := by
              show (decide (N = 1) || decide (wcL L0 N = N)) = false
              have h1 : ¬ L0 = 1 := fun e => ho ⟨e, fun e2 => hf (.inl e2)⟩
              unfold wcL
              rw [if_neg h1, decide_eq_false (fun e => hf (.inl e)), decide_eq_false (fun e => hf (.inr e))]
              rfl
            rw [hb, if_neg (by decide)] at hEE
            exact hEE.symm)
          have KM : Hid (ex = false → (L0 = 1 → N ≠ 1 → (P0 0 = 1 → N = mW ∧ ∀ q, q < N → hW q = (q : Int)) ∧ (P0 0 ≠ 1 → 0 = mW)) ∧ (¬ (L0 = 1 ∧ N ≠ 1) → (N = 1 ∨ L0 = N) → kpN P0 L0 = mW ∧ ∀ q, q < L0 → P0 q = 1 → (if N = 1 then 0 else (q : Int)) = hW (kpN P0 q))) := Lib.hid (fun hex => by
            subst hex
            have hm : mW = kpN (wcF P0 L0) (wcL L0 N) := by rw [← hmW]; rfl
            have hh : hW = kpP (wcF P0 L0) (fun m => ((m % N : Nat) : Int)) (wcL L0 N) := by rw [← hhW]; rfl
            refine ⟨fun h1 h2 => ⟨fun e => ?_, fun e => ?_⟩, fun ho hf => ?_⟩
            · have hF : ∀ j, wcF P0 L0 j = 1 := fun j => by unfold wcF; rw [if_pos h1, e]
              have hl : wcL L0 N = N := by unfold wcL; rw [if_pos h1]
              have hkp : ∀ n, kpN (wcF P0 L0) n = n := fun n => kpN_ones (fun j _ => hF j)
              refine ⟨by rw [hm, hl, hkp], fun q hq => ?_⟩
              rw [hh, hl]
              have := kpP_at (f := wcF P0 L0) (v := fun m => ((m % N : Nat) : Int)) (hF q) hq
              rw [hkp] at this
              rw [this]
              show ((q % N : Nat) : Int) = q
              rw [Nat.mod_eq_of_lt hq]
            · have hF : ∀ j, wcF P0 L0 j ≠ 1 := fun j => by unfold wcF; rw [if_pos h1]; exact e
              rw [hm, kpN_none (fun j _ => hF j)]
            · have hl : wcL L0 N = L0 := by
                unfold wcL
                split
                · rename_i e1
                  have : N = 1 := Classical.byContradiction (fun h => ho ⟨e1, h⟩)
                  omega
                · rfl
              have hF : ∀ j, j < L0 → wcF P0 L0 j = P0 j := fun j hj => by
                unfold wcF
                split
                · rename_i e1
                  obtain rfl : j = 0 := by omega
                  rfl
                · rfl
              have hkp : ∀ n, n ≤ L0 → kpN (wcF P0 L0) n = kpN P0 n := fun n hn => kpN_congr (fun j hj => hF j (by omega))
              refine ⟨by rw [hm, hl, hkp L0 (Nat.le_refl _)], fun q hq e => ?_⟩
              rw [hh, hl]
              have := kpP_at (f := wcF P0 L0) (v := fun m => ((m % N : Nat) : Int)) (k := q) (by rw [hF q hq]; exact e) hq
              rw [hkp q (by omega)] at this
              rw [this]
              exact (mod_in (hf.imp id (fun h => by omega))).symm)
          have HQ1 := Lib.hid (And.intro hk1 hq)
          clear hEE hRR hS2 hk9 hsh2 HSX hmW hhW hNk hq hfl hTT hG heC heB heS heT hMM HX2 HX3 HKX hk1
          by_cases hA : r = 0 ∧ i ≤ 0
          · obtain ⟨hR1, hS1⟩ := HRX.out.1 hA
            have hR1 := Lib.hid (And.intro hR1 hS1)
            have d0 : (((r : Nat) : Int) == 0) = true := beq_iff_eq.2 (by omega)
            have di := hA.2
            have hk0 : k2 = 0 := by have := hR1.out.1; omega
            have HK0 := Lib.hid hk0
            have x1 : wr.cell? ⟨w.heap.size + 1, 0, none⟩ = some (.slice sa r sc) := BB.out.now.2.1.cell 0
            have hbz : Below wr.heap.size wr (wr.alloc (.cells #[.int .i64 1] 3)) := (Below.refl _ _).alloc (Nat.le_refl _) _
            have B1 := BB.out.go hbz
            have KO := KRow.one' wr .i64 1 3
            have z0 : (wr.alloc (.cells #[.int .i64 1] 3)).cell? ⟨w.heap.size + 1, 0, none⟩ = some (.slice sa r sc) := B1.now.2.1.cell 0
            have zf := B1.now.2.1.free 0
            obtain ⟨bs, hbs⟩ : ∃ q, wr.heap.size = q := ⟨_, rfl⟩
            have HW9 : Hid (Bag w (fun y => Row y (w.heap.size + 1 + 1) 26 plZer ∧ Row y (w.heap.size + 1) 26 (plC (some ⟨bs, 0, none⟩) 1 1 ch ta (tnO ch L) tc na (nnO ch L) nc) ∧ KRow y .i64 aL L0 cL P0 ∧ KRow y .i64 (some ⟨bs, 0, none⟩) RR 1 S2 ∧ True) ((wr.alloc (.cells #[.int .i64 1] 3)).setCell ⟨w.heap.size + 1, 0, none⟩ (.slice (some ⟨bs, 0, none⟩) 1 1)) ∧ Pln ((wr.alloc (.cells #[.int .i64 1] 3)).setCell ⟨w.heap.size + 1, 0, none⟩ (.slice (some ⟨bs, 0, none⟩) 1 1)) (plC (some ⟨bs, 0, none⟩) 1 1 ch ta (tnO ch L) tc na (nnO ch L) nc) S2 RR ch L g fB fS fT) := Lib.hid (by
              rw [hbs] at KO
              have hpl : Pln (wr.alloc (.cells #[.int .i64 1] 3)) (plC sa r sc ch ta (tnO ch L) tc na (nnO ch L) nc) S r ch L g fB fS fT := H.out.below B1.below
              have hpl2 := PlnAt.away hpl B1.now.2.1 (noInt_pl _ _ _ _ _ _ _ _ _ _) (noStr_pl _ _ _ _ _ _ _ _ _ _) (Far.setCell _ (w.heap.size + 1) 0 (.slice (some ⟨bs, 0, none⟩) 1 1))
              have hks2 : KRow ((wr.alloc (.cells #[.int .i64 1] 3)).setCell ⟨w.heap.size + 1, 0, none⟩ (.slice (some ⟨bs, 0, none⟩) 1 1)) .i64 (some ⟨bs, 0, none⟩) 1 1 (fun _ => 1) := KO.setAt z0 (fun _ h => by cases h) _
              refine ⟨⟨B1.below.setCell (p := ⟨w.heap.size + 1, 0, none⟩) (by show w.heap.size ≤ w.heap.size + 1; omega) _, fun a b hb ⟨h1, h2, h3, h4, _⟩ => ⟨h1.below hb, h2.below hb, h3.below hb, h4.below hb, trivial⟩, B1.now.1.far (a := ⟨w.heap.size + 1, 0, none⟩) (by show w.heap.size + 1 + 1 ≠ w.heap.size + 1; omega) _, B1.now.2.1.set 0 _, B1.now.2.2.1.setAt z0 (fun _ h => by cases h) _, ?_, trivial⟩, ?_⟩
              · rw [hR1.out.1, hR1.out.2]; exact hks2
              · obtain ⟨q1, q2, q3, q4, q5, q6, qe, k1, k2', k3⟩ := hpl2
                rw [hR1.out.1, hR1.out.2]
                unfold plC at qe
                injection qe with qe
                injection qe with qa qe
                injection qe with qb qe
                injection qe with qc qe
                injection qe with qd qe
                injection qa with qa1 qa2 qa3
                injection qc with qc1 qc2 qc3
                injection qd with qd1 qd2 qd3
                subst qc1 qc3 qd1 qd3
                exact ⟨_, _, _, _, _, _, rfl, hks2, k2', k3⟩)
            have HA := Lib.hid HW9.out.2
            have HB9 := Lib.hid HW9.out.1
            have XP := Lib.hid (fun hex wz p q => XPX.out (plC (some ⟨bs, 0, none⟩) 1 1 ch ta (tnO ch L) tc na (nnO ch L) nc) hex wz aL cL p q)
            have GA := Lib.hid (GAX.out (plC (some ⟨bs, 0, none⟩) 1 1 ch ta (tnO ch L) tc na (nnO ch L) nc))
            have AX : Hid (∀ wz, Pln wz (plC (some ⟨bs, 0, none⟩) 1 1 ch ta (tnO ch L) tc na (nnO ch L) nc) S2 RR ch L g fB fS fT → Calls Tryz.prog 33 #[.agg (plC (some ⟨bs, 0, none⟩) 1 1 ch ta (tnO ch L) tc na (nnO ch L) nc), .int .i64 0] wz fun e w' => e = .returned (.tuple #[.int .i64 (k2 : Nat), .bool true]) ∧ Below wz.heap.size wz w') := Lib.hid (fun wz q => by
              have := rAxis_any (plC (some ⟨bs, 0, none⟩) 1 1 ch ta (tnO ch L) tc na (nnO ch L) nc) S2 RR ch L g fB fS fT 0 wz q (by omega)
              rw [hR1.out.1, (ax_one (show (0 : Int) ≤ 0 by omega)).1, (ax_one (show (0 : Int) ≤ 0 by omega)).2] at this
              rw [HK0.out]
              exact this)
            have HR5 := Lib.hid HB9.out.now.2.1
            have HRR1 : Hid (RR = 1) := Lib.hid hR1.out.1
            have HSZ := Lib.hid hbs
            clear hA HRX XPX GAX HQ1 hR1 KO hbz B1 HW9 hk0 BB HBL
            have BB := HB9
            clear HB9
            go_wp2_with (refine ld_pln rfl (.tmp 5) rfl (w.heap.size + 1) rfl HR5.out ?_)
            go_at_call 33
            (with_reducible refine (AX.out _ ?_).mono ?_)
            · exact HA.out
            rintro e w5 ⟨rfl, hb5⟩
            have HA := Lib.hid (HA.out.below hb5)
            have BB := Lib.hid (BB.out.go hb5)
            obtain ⟨b9, o9, hes, hbq, hcs⟩ := BB.out.now.2.2.2.1.get hkr
            obtain ⟨hes1, hes2⟩ : bs = b9 ∧ 0 = o9 := by cases hes; exact ⟨rfl, rfl⟩
            subst hes1
            subst hes2
            clear hes
            rw [HSN.out] at hcs
            have x1 : w5.cell? ⟨w.heap.size + 1, 0, none⟩ = some (.slice (some ⟨bs, 0, none⟩) 1 1) := BB.out.now.2.1.cell 0
            have hlX := BB.out.now.2.2.2.1.len
            have hlL := BB.out.now.2.2.1.len
            have hkn0 : (0 : Int) ≤ (k2 : Nat) := by omega
            have hkn1 : ((k2 : Nat) : Int) < 1 := by have := HRR1.out; omega
            have hcs2 := hcs
            rw [Nat.zero_add] at hcs2
            have HR5 := Lib.hid BB.out.now.2.1
            clear hb5 hbq
            cases ex with
            | true =>
              have XP1 := Lib.hid (XP.out rfl)
              clear XP KM GA HE24
              go_wp2_with (refine ld_pln rfl (.tmp 5) rfl (w.heap.size + 1) rfl HR5.out ?_)
              go_at_call 34
              (refine (XP1.out _ HA.out BB.out.now.2.2.1).mono ?_)
              have BW := BB
              rintro e w9 hpt
              obtain ⟨x9, rfl, hip, hp9, hz9, hb9⟩ := hpt.res2
              have B9 := BW.out.go hb9
              have HZ := Lib.hid B9.now.1
              have HE : Hid (PoTold EE TT RR ch MM eC eB eS eT w (w9.setRow (w.heap.size + 1 + 1) x9) (.returned (.tuple #[.agg x9, .int .i64 EE]))) := Lib.hid ⟨x9, rfl, fun e => (hp9 e).put HZ.out x9, hz9, below_put B9.below (show w.heap.size ≤ w.heap.size + 1 + 1 by omega) x9⟩
              obtain ⟨q1, q2, q3, q4, q5, q6, q7, q8, q9, q10, hx9⟩ := hip
              subst hx9
              clear hpt hp9 hz9 hb9 B9
              go_wp2_with (refine st_pln rfl (.tmp 8) (.tmp 85) rfl (w.heap.size + 1 + 1) rfl _ _ _ _ _ _ _ _ _ _ rfl HZ.out rfl ?_)
              exact bodyPost_ret (res_pln2 Tryz.results14 rfl rfl (HZ.out.put _) rfl) rfl HE.out
            | false =>
              have KM1 := Lib.hid (KM.out rfl)
              clear XP KM
              have GA1 := Lib.hid (GA.out rfl)
              have HE241 := Lib.hid (HE24.out rfl)
              clear GA HE24
              by_cases hone : L0 = 1 ∧ N ≠ 1
              · obtain ⟨hL1, hN1⟩ := hone
                have d1 : ((L0 : Int) == 1) = true := beq_iff_eq.2 (by omega)
                have d2 : ((N : Int) != 1) = true := bne_iff_ne.2 (by omega)
                obtain ⟨b2, o2, hab, hb2, hc2⟩ := BB.out.now.2.2.1.get (show 0 < L0 by omega)
                cases hab
                obtain ⟨hk1, hk0⟩ := KM1.out.1 hL1 hN1
                have GA2 := Lib.hid (GA1.out (.inl hL1))
                clear GA1
                have hL01 : (0 : Int) < L0 := by omega
                clear hL1 hN1 KM1
                by_cases e : P0 0 = 1
                · obtain ⟨hm, hv⟩ := hk1 e
                  have HV := Lib.hid hv
                  rw [e, Nat.add_zero] at hc2
                  subst hm
                  have d3 : ((1 : Int) == 1) = true := rfl
                  clear hk1 hk0 hv e
                  go_wp2_with fail
                  obtain ⟨y4, hy4⟩ : ∃ y4, y4 = w5 := ⟨_, rfl⟩
                  subst hy4
                  go_loopw [17, 18] (fun s i wr => ∃ (q : Nat) (a : Option Addr) (c : Nat), q ≤ N ∧ s = .slice a q c ∧ i = .int .i64 q ∧ Hid (OwnI y4 wr a q c hW)) (fun _ i _ => N - (intOf i).toNat)
                  case atStart => exact ⟨0, none, 0, by omega, rfl, rfl, OwnI.nil _ _⟩
                  case round =>
                    obtain ⟨q, a, c, hq, rfl, rfl, ho⟩ := hrel
                    have BW := Lib.hid (BB.out.go ho.out.1)
                    have hc3 := (ho.out.1.cell (p := ⟨b2, o2, none⟩) hb2).trans hc2
                    by_cases hlt : q < N
                    · have hq0 : (0 : Int) ≤ q := by omega
                      have hq1 : (q : Int) < N := by omega
                      obtain ⟨a', c', y3, hr3, ho'⟩ := app1_step ho.out (HV.out q hlt).symm (by omega)
                      have HO' := Lib.hid ho'
                      clear ho ho'
                      go_wp2_with (at_builtin; refine Lib.wpList_append_run _ rfl _ _ _ _ rfl _ _ rfl rfl _ _ hr3 ?_)
                      go_roundw
                      case rel => exact ⟨q + 1, a', c', by omega, rfl, by go_num, HO'⟩
                      case measure => simp [intOf]; omega
                    · have hqm : q = N := by omega
                      subst q
                      have HKK := Lib.hid ho.out.krow
                      have HR9 := Lib.hid BW.out.now.2.1
                      have HA9 := Lib.hid (HA.out.below ho.out.1)
                      clear ho hlt hq
                      go_wp2_with (refine ld_pln rfl (.tmp 5) rfl (w.heap.size + 1) rfl HR9.out ?_)
                      go_at_call 35
                      (refine (GA2.out _ _ _ HA9.out HKK.out).mono ?_)
                      rintro e w9 hpt
                      obtain ⟨x9, rfl, hip, hp9, hz9, hb9⟩ := hpt.res2
                      have B9 := BW.out.go hb9
                      have HZ := Lib.hid B9.now.1
                      have HE : Hid (PoTold EE TT RR ch MM eC eB eS eT w (w9.setRow (w.heap.size + 1 + 1) x9) (.returned (.tuple #[.agg x9, .int .i64 EE]))) := Lib.hid ⟨x9, rfl, fun e => (hp9 e).put HZ.out x9, hz9, below_put B9.below (show w.heap.size ≤ w.heap.size + 1 + 1 by omega) x9⟩
                      obtain ⟨q1, q2, q3, q4, q5, q6, q7, q8, q9, q10, hx9⟩ := hip
                      subst hx9
                      clear hpt hp9 hz9 hb9 B9
                      go_wp2_with (refine st_pln rfl (.tmp 8) (.tmp 113) rfl (w.heap.size + 1 + 1) rfl _ _ _ _ _ _ _ _ _ _ rfl HZ.out rfl ?_)
                      exact bodyPost_ret (res_pln2 Tryz.results14 rfl rfl (HZ.out.put _) rfl) rfl HE.out
                · have hm := hk0 e
                  subst hm
                  have e0 : P0 0 = 0 := (HF.out 0 (by omega)).resolve_right e
                  rw [e0, Nat.add_zero] at hc2
                  clear hk1 hk0 e e0
                  go_wp2_with fail
                  obtain ⟨y4, hy4⟩ : ∃ y4, y4 = w5 := ⟨_, rfl⟩
                  subst hy4
                  go_loopw [17, 18] (fun s i wr => s = .slice none 0 0 ∧ i = .int .i64 0 ∧ wr = y4) (fun _ _ _ => 0)
                  case atStart => exact ⟨rfl, rfl, rfl⟩
                  case round =>
                    obtain ⟨rfl, rfl, rfl⟩ := hrel
                    have BW := BB
                    have HKK := Lib.hid (KRow.nought wr .i64 none 0 (Nat.zero_le _) hW)
                    have HR9 := Lib.hid BB.out.now.2.1
                    have HA9 := HA
                    by_cases hNp : (0 : Int) < N
                    all_goals
                      go_wp2_with (refine ld_pln rfl (.tmp 5) rfl (w.heap.size + 1) rfl HR9.out ?_)
                      go_at_call 35
                      (refine (GA2.out _ _ _ HA9.out HKK.out).mono ?_)
                      rintro e w9 hpt
                      obtain ⟨x9, rfl, hip, hp9, hz9, hb9⟩ := hpt.res2
                      have B9 := BW.out.go hb9
                      have HZ := Lib.hid B9.now.1
                      have HE : Hid (PoTold EE TT RR ch MM eC eB eS eT w (w9.setRow (w.heap.size + 1 + 1) x9) (.returned (.tuple #[.agg x9, .int .i64 EE]))) := Lib.hid ⟨x9, rfl, fun e => (hp9 e).put HZ.out x9, hz9, below_put B9.below (show w.heap.size ≤ w.heap.size + 1 + 1 by omega) x9⟩
                      obtain ⟨q1, q2, q3, q4, q5, q6, q7, q8, q9, q10, hx9⟩ := hip
                      subst hx9
                      clear hpt hp9 hz9 hb9 B9
                      go_wp2_with (refine st_pln rfl (.tmp 8) (.tmp 113) rfl (w.heap.size + 1 + 1) rfl _ _ _ _ _ _ _ _ _ _ rfl HZ.out rfl ?_)
                      exact bodyPost_ret (res_pln2 Tryz.results14 rfl rfl (HZ.out.put _) rfl) rfl HE.out
              · have hd1 : ((L0 : Int) == 1) = false ∨ (((L0 : Int) == 1) = true ∧ ((N : Int) != 1) = false) := by
                  by_cases e : L0 = 1
                  · have e2 : N = 1 := Classical.byContradiction (fun h => hone ⟨e, h⟩)
                    exact .inr ⟨beq_iff_eq.2 (by omega), by rw [e2]; rfl⟩
                  · exact .inl (beq_eq_false_iff_ne.2 (by omega))
                by_cases hfit : N = 1 ∨ L0 = N
                · have hd2 : ((N : Int) != 1) = false ∨ (((N : Int) != 1) = true ∧ ((L0 : Int) != (N : Int)) = false) := by
                    by_cases e : N = 1
                    · exact .inl (by rw [e]; rfl)
                    · exact .inr ⟨bne_iff_ne.2 (by omega), by rw [show L0 = N from hfit.resolve_left e]; exact bne_self_eq_false _⟩
                  have GA2 := Lib.hid (GA1.out (.inr hfit))
                  clear GA1
                  obtain ⟨hm, hv⟩ := KM1.out.2 hone hfit
                  subst hm
                  have HV := Lib.hid hv
                  clear hv hone hfit KM1
                  have hd : (((L0 : Int) == 1) = false ∧ ((N : Int) != 1) = false) ∨ (((L0 : Int) == 1) = false ∧ ((N : Int) != 1) = true ∧ ((L0 : Int) != (N : Int)) = false) ∨ (((L0 : Int) == 1) = true ∧ ((N : Int) != 1) = false) := by
                    rcases hd1 with d | ⟨d, d2⟩
                    · rcases hd2 with e | e
                      · exact .inl ⟨d, e⟩
                      · exact .inr (.inl ⟨d, e.1, e.2⟩)
                    · exact .inr (.inr ⟨d, d2⟩)
                  clear hd1 hd2
                  rcases hd with ⟨d1, d2⟩ | ⟨d1, d2, d3⟩ | ⟨d1, d2⟩
                  all_goals
                    go_wp2_with fail
                    obtain ⟨y4, hy4⟩ : ∃ y4, y4 = w5 := ⟨_, rfl⟩
                    subst hy4
                    go_loopw [17, 19] (fun s i wr => ∃ (q : Nat) (a : Option Addr) (c : Nat), q ≤ L0 ∧ s = .slice a (kpN P0 q) c ∧ i = .int .i64 q ∧ Hid (OwnI y4 wr a (kpN P0 q) c hW)) (fun _ i _ => L0 - (intOf i).toNat)
                    case atStart => exact ⟨0, none, 0, by omega, rfl, rfl, OwnI.nil _ _⟩
                    case round =>
                      obtain ⟨q, a, c, hq, rfl, rfl, ho⟩ := hrel
                      have BW := Lib.hid (BB.out.go ho.out.1)
                      by_cases hlt : q < L0
                      · obtain ⟨b2, o2, hab, hb2, hc2⟩ := BW.out.now.2.2.1.get hlt
                        cases hab
                        have hq0 : (0 : Int) ≤ q := by omega
                        have hq1 : (q : Int) < L0 := by omega
                        have hql := kpN_le P0 q
                        by_cases e : P0 q = 1
                        · have hs : kpN P0 (q + 1) = kpN P0 q + 1 := by show (if P0 q = 1 then _ else _) = _; rw [if_pos e]
                          have HS := Lib.hid hs
                          have hv := HV.out q hlt e
                          rw [e] at hc2
                          have d5 : ((1 : Int) == 1) = true := rfl
                          by_cases e1 : N = 1
                          · rw [if_pos e1] at hv
                            have d6 : ((N : Int) == 1) = true := beq_iff_eq.2 (by omega)
                            obtain ⟨a', c', y3, hr3, ho'⟩ := app1_step ho.out hv (by omega)
                            have HO' := Lib.hid ho'
                            clear ho ho' hv hs e e1 d2
                            generalize kpN P0 q = z at *
                            go_wp2_with (at_builtin; refine Lib.wpList_append_run _ rfl _ _ _ _ rfl _ _ rfl rfl _ _ hr3 ?_)
                            go_roundw
                            case rel => exact ⟨q + 1, a', c', by omega, by rw [HS.out], by go_num, by rw [HS.out]; exact HO'⟩
                            case measure => simp [intOf]; omega
                          · rw [if_neg e1] at hv
                            have d6 : ((N : Int) == 1) = false := beq_eq_false_iff_ne.2 (by omega)
                            obtain ⟨a', c', y3, hr3, ho'⟩ := app1_step ho.out hv (by omega)
                            have HO' := Lib.hid ho'
                            clear ho ho' hv hs e e1 d2
                            generalize kpN P0 q = z at *
                            go_wp2_with (at_builtin; refine Lib.wpList_append_run _ rfl _ _ _ _ rfl _ _ rfl rfl _ _ hr3 ?_)
                            go_roundw
                            case rel => exact ⟨q + 1, a', c', by omega, by rw [HS.out], by go_num, by rw [HS.out]; exact HO'⟩
                            case measure => simp [intOf]; omega
                        · have hs : kpN P0 (q + 1) = kpN P0 q := by show (if P0 q = 1 then _ else _) = _; rw [if_neg e]
                          have h0 : P0 q = 0 := (HF.out q hlt).resolve_right e
                          have HS := Lib.hid hs
                          have HO' := Lib.hid ho.out
                          rw [h0] at hc2
                          clear ho hs e h0
                          generalize kpN P0 q = z at *
                          go_wp2
                          go_roundw
                          case rel => exact ⟨q + 1, a, c, by omega, by rw [HS.out], by go_num, by rw [HS.out]; exact HO'⟩
                          case measure => simp [intOf]; omega
                      · have hqm : q = L0 := by omega
                        subst q
                        have HKK := Lib.hid ho.out.krow
                        have HR9 := Lib.hid BW.out.now.2.1
                        have HA9 := Lib.hid (HA.out.below ho.out.1)
                        clear ho hlt hq
                        go_wp2_with (refine ld_pln rfl (.tmp 5) rfl (w.heap.size + 1) rfl HR9.out ?_)
                        go_at_call 35
                        (refine (GA2.out _ _ _ HA9.out HKK.out).mono ?_)
                        rintro e w9 hpt
                        obtain ⟨x9, rfl, hip, hp9, hz9, hb9⟩ := hpt.res2
                        have B9 := BW.out.go hb9
                        have HZ := Lib.hid B9.now.1
                        have HE : Hid (PoTold EE TT RR ch MM eC eB eS eT w (w9.setRow (w.heap.size + 1 + 1) x9) (.returned (.tuple #[.agg x9, .int .i64 EE]))) := Lib.hid ⟨x9, rfl, fun e => (hp9 e).put HZ.out x9, hz9, below_put B9.below (show w.heap.size ≤ w.heap.size + 1 + 1 by omega) x9⟩
                        obtain ⟨q1, q2, q3, q4, q5, q6, q7, q8, q9, q10, hx9⟩ := hip
                        subst hx9
                        clear hpt hp9 hz9 hb9 B9
                        go_wp2_with (refine st_pln rfl (.tmp 8) (.tmp 155) rfl (w.heap.size + 1 + 1) rfl _ _ _ _ _ _ _ _ _ _ rfl HZ.out rfl ?_)
                        exact bodyPost_ret (res_pln2 Tryz.results14 rfl rfl (HZ.out.put _) rfl) rfl HE.out
                · have d2 : ((N : Int) != 1) = true := bne_iff_ne.2 (fun e => hfit (.inl (by omega)))
                  have d3 : ((L0 : Int) != (N : Int)) = true := bne_iff_ne.2 (fun e => hfit (.inr (by omega)))
                  have d1 : ((L0 : Int) == 1) = false := hd1.resolve_right (fun h => by rw [d2] at h; cases h.2)
                  have HQ := Lib.hid (HE241.out hone hfit)
                  clear hd1 hone hfit KM1 GA1
                  have HZ := Lib.hid BB.out.now.1
                  have HE := Lib.hid (HNO.out 24 _ HQ.out (by decide) BB.out.below)
                  go_wp2_with (refine st_pln rfl (.tmp 8) (.tmp 123) rfl (w.heap.size + 1 + 1) rfl none 0 0 false none 0 0 none 0 0 rfl HZ.out rfl ?_)
                  exact bodyPost_ret (res_pln2 Tryz.results14 rfl rfl (HZ.out.put _) rfl) rfl HE.out
          · obtain ⟨hR1, hS1⟩ := HRX.out.2 hA
            have HRS := Lib.hid (And.intro hR1 hS1)
            have d0 : (((r : Nat) : Int) == 0) = false := beq_eq_false_iff_ne.2 (fun e => hA ⟨by omega, by
              have := HQ1.out.1
              have hr0 : r = 0 := by omega
              omega⟩)
            subst hR1
            subst hS1
            obtain ⟨bs, os, hes, _, _⟩ := BB.out.now.2.2.2.1.get hkr
            subst hes
            have HA := Lib.hid (H.out.below BB.out.below)
            have XP := Lib.hid (fun hex wz p q => XPX.out (plC (some ⟨bs, os, none⟩) RR sc ch ta (tnO ch L) tc na (nnO ch L) nc) hex wz aL cL p q)
            have GA := Lib.hid (GAX.out (plC (some ⟨bs, os, none⟩) RR sc ch ta (tnO ch L) tc na (nnO ch L) nc))
            have AX : Hid (∀ wz, Pln wz (plC (some ⟨bs, os, none⟩) RR sc ch ta (tnO ch L) tc na (nnO ch L) nc) S2 RR ch L g fB fS fT → Calls Tryz.prog 33 #[.agg (plC (some ⟨bs, os, none⟩) RR sc ch ta (tnO ch L) tc na (nnO ch L) nc), .int .i64 i] wz fun e w' => e = .returned (.tuple #[.int .i64 (k2 : Nat), .bool true]) ∧ Below wz.heap.size wz w') := Lib.hid (fun wz q => by
              have := rAxis_any (plC (some ⟨bs, os, none⟩) RR sc ch ta (tnO ch L) tc na (nnO ch L) nc) S2 RR ch L g fB fS fT i wz q (by omega)
              rw [HQ1.out.1, HQ1.out.2] at this
              exact this)
            have x1 : wr.cell? ⟨w.heap.size + 1, 0, none⟩ = some (.slice (some ⟨bs, os, none⟩) RR sc) := BB.out.now.2.1.cell 0
            have HR5 := Lib.hid BB.out.now.2.1
            clear hA HRX XPX GAX HQ1 HRS HBL
            go_wp2_with (refine ld_pln rfl (.tmp 5) rfl (w.heap.size + 1) rfl HR5.out ?_)
            go_at_call 33
            (with_reducible refine (AX.out _ ?_).mono ?_)
            · exact HA.out
            rintro e w5 ⟨rfl, hb5⟩
            have HA := Lib.hid (HA.out.below hb5)
            have BB := Lib.hid (BB.out.go hb5)
            obtain ⟨b9, o9, hes, hbq, hcs⟩ := BB.out.now.2.2.2.1.get hkr
            obtain ⟨hes1, hes2⟩ : bs = b9 ∧ os = o9 := by cases hes; exact ⟨rfl, rfl⟩
            subst hes1
            subst hes2
            clear hes
            rw [HSN.out] at hcs
            have x1 : w5.cell? ⟨w.heap.size + 1, 0, none⟩ = some (.slice (some ⟨bs, os, none⟩) RR sc) := BB.out.now.2.1.cell 0
            have hlX := BB.out.now.2.2.2.1.len
            have hlL := BB.out.now.2.2.1.len
            have hkn0 : (0 : Int) ≤ (k2 : Nat) := by omega
            have hkn1 : ((k2 : Nat) : Int) < (RR : Nat) := by omega
            have HR5 := Lib.hid BB.out.now.2.1
            clear hb5 hbq
            cases ex with
            | true =>
              have XP1 := Lib.hid (XP.out rfl)
              clear XP KM GA HE24
              go_wp2_with (refine ld_pln rfl (.tmp 5) rfl (w.heap.size + 1) rfl HR5.out ?_)
              go_at_call 34
              (refine (XP1.out _ HA.out BB.out.now.2.2.1).mono ?_)
              have BW := BB
              rintro e w9 hpt
              obtain ⟨x9, rfl, hip, hp9, hz9, hb9⟩ := hpt.res2
              have B9 := BW.out.go hb9
              have HZ := Lib.hid B9.now.1
              have HE : Hid (PoTold EE TT RR ch MM eC eB eS eT w (w9.setRow (w.heap.size + 1 + 1) x9) (.returned (.tuple #[.agg x9, .int .i64 EE]))) := Lib.hid ⟨x9, rfl, fun e => (hp9 e).put HZ.out x9, hz9, below_put B9.below (show w.heap.size ≤ w.heap.size + 1 + 1 by omega) x9⟩
              obtain ⟨q1, q2, q3, q4, q5, q6, q7, q8, q9, q10, hx9⟩ := hip
              subst hx9
              clear hpt hp9 hz9 hb9 B9
              go_wp2_with (refine st_pln rfl (.tmp 8) (.tmp 85) rfl (w.heap.size + 1 + 1) rfl _ _ _ _ _ _ _ _ _ _ rfl HZ.out rfl ?_)
              exact bodyPost_ret (res_pln2 Tryz.results14 rfl rfl (HZ.out.put _) rfl) rfl HE.out
            | false =>
              have KM1 := Lib.hid (KM.out rfl)
              clear XP KM
              have GA1 := Lib.hid (GA.out rfl)
              have HE241 := Lib.hid (HE24.out rfl)
              clear GA HE24
              by_cases hone : L0 = 1 ∧ N ≠ 1
              · obtain ⟨hL1, hN1⟩ := hone
                have d1 : ((L0 : Int) == 1) = true := beq_iff_eq.2 (by omega)
                have d2 : ((N : Int) != 1) = true := bne_iff_ne.2 (by omega)
                obtain ⟨b2, o2, hab, hb2, hc2⟩ := BB.out.now.2.2.1.get (show 0 < L0 by omega)
                cases hab
                obtain ⟨hk1, hk0⟩ := KM1.out.1 hL1 hN1
                have GA2 := Lib.hid (GA1.out (.inl hL1))
                clear GA1
                have hL01 : (0 : Int) < L0 := by omega
                clear hL1 hN1 KM1
                by_cases e : P0 0 = 1
                · obtain ⟨hm, hv⟩ := hk1 e
                  have HV := Lib.hid hv
                  rw [e, Nat.add_zero] at hc2
                  subst hm
                  have d3 : ((1 : Int) == 1) = true := rfl
                  clear hk1 hk0 hv e
                  go_wp2_with fail
                  obtain ⟨y4, hy4⟩ : ∃ y4, y4 = w5 := ⟨_, rfl⟩
                  subst hy4
                  go_loopw [17, 18] (fun s i wr => ∃ (q : Nat) (a : Option Addr) (c : Nat), q ≤ N ∧ s = .slice a q c ∧ i = .int .i64 q ∧ Hid (OwnI y4 wr a q c hW)) (fun _ i _ => N - (intOf i).toNat)
                  case atStart => exact ⟨0, none, 0, by omega, rfl, rfl, OwnI.nil _ _⟩
                  case round =>
                    obtain ⟨q, a, c, hq, rfl, rfl, ho⟩ := hrel
                    have BW := Lib.hid (BB.out.go ho.out.1)
                    have hc3 := (ho.out.1.cell (p := ⟨b2, o2, none⟩) hb2).trans hc2
                    by_cases hlt : q < N
                    · have hq0 : (0 : Int) ≤ q := by omega
                      have hq1 : (q : Int) < N := by omega
                      obtain ⟨a', c', y3, hr3, ho'⟩ := app1_step ho.out (HV.out q hlt).symm (by omega)
                      have HO' := Lib.hid ho'
                      clear ho ho'
                      go_wp2_with (at_builtin; refine Lib.wpList_append_run _ rfl _ _ _ _ rfl _ _ rfl rfl _ _ hr3 ?_)
                      go_roundw
                      case rel => exact ⟨q + 1, a', c', by omega, rfl, by go_num, HO'⟩
                      case measure => simp [intOf]; omega
                    · have hqm : q = N := by omega
                      subst q
                      have HKK := Lib.hid ho.out.krow
                      have HR9 := Lib.hid BW.out.now.2.1
                      have HA9 := Lib.hid (HA.out.below ho.out.1)
                      clear ho hlt hq
                      go_wp2_with (refine ld_pln rfl (.tmp 5) rfl (w.heap.size + 1) rfl HR9.out ?_)
                      go_at_call 35
                      (refine (GA2.out _ _ _ HA9.out HKK.out).mono ?_)
                      rintro e w9 hpt
                      obtain ⟨x9, rfl, hip, hp9, hz9, hb9⟩ := hpt.res2
                      have B9 := BW.out.go hb9
                      have HZ := Lib.hid B9.now.1
                      have HE : Hid (PoTold EE TT RR ch MM eC eB eS eT w (w9.setRow (w.heap.size + 1 + 1) x9) (.returned (.tuple #[.agg x9, .int .i64 EE]))) := Lib.hid ⟨x9, rfl, fun e => (hp9 e).put HZ.out x9, hz9, below_put B9.below (show w.heap.size ≤ w.heap.size + 1 + 1 by omega) x9⟩
                      obtain ⟨q1, q2, q3, q4, q5, q6, q7, q8, q9, q10, hx9⟩ := hip
                      subst hx9
                      clear hpt hp9 hz9 hb9 B9
                      go_wp2_with (refine st_pln rfl (.tmp 8) (.tmp 113) rfl (w.heap.size + 1 + 1) rfl _ _ _ _ _ _ _ _ _ _ rfl HZ.out rfl ?_)
                      exact bodyPost_ret (res_pln2 Tryz.results14 rfl rfl (HZ.out.put _) rfl) rfl HE.out
                · have hm := hk0 e
                  subst hm
                  have e0 : P0 0 = 0 := (HF.out 0 (by omega)).resolve_right e
                  rw [e0, Nat.add_zero] at hc2
                  clear hk1 hk0 e e0
                  go_wp2_with fail
                  obtain ⟨y4, hy4⟩ : ∃ y4, y4 = w5 := ⟨_, rfl⟩
                  subst hy4
                  go_loopw [17, 18] (fun s i wr => s = .slice none 0 0 ∧ i = .int .i64 0 ∧ wr = y4) (fun _ _ _ => 0)
                  case atStart => exact ⟨rfl, rfl, rfl⟩
                  case round =>
                    obtain ⟨rfl, rfl, rfl⟩ := hrel
                    have BW := BB
                    have HKK := Lib.hid (KRow.nought wr .i64 none 0 (Nat.zero_le _) hW)
                    have HR9 := Lib.hid BB.out.now.2.1
                    have HA9 := HA
                    by_cases hNp : (0 : Int) < N
                    all_goals
                      go_wp2_with (refine ld_pln rfl (.tmp 5) rfl (w.heap.size + 1) rfl HR9.out ?_)
                      go_at_call 35
                      (refine (GA2.out _ _ _ HA9.out HKK.out).mono ?_)
                      rintro e w9 hpt
                      obtain ⟨x9, rfl, hip, hp9, hz9, hb9⟩ := hpt.res2
                      have B9 := BW.out.go hb9
                      have HZ := Lib.hid B9.now.1
                      have HE : Hid (PoTold EE TT RR ch MM eC eB eS eT w (w9.setRow (w.heap.size + 1 + 1) x9) (.returned (.tuple #[.agg x9, .int .i64 EE]))) := Lib.hid ⟨x9, rfl, fun e => (hp9 e).put HZ.out x9, hz9, below_put B9.below (show w.heap.size ≤ w.heap.size + 1 + 1 by omega) x9⟩
                      obtain ⟨q1, q2, q3, q4, q5, q6, q7, q8, q9, q10, hx9⟩ := hip
                      subst hx9
                      clear hpt hp9 hz9 hb9 B9
                      go_wp2_with (refine st_pln rfl (.tmp 8) (.tmp 113) rfl (w.heap.size + 1 + 1) rfl _ _ _ _ _ _ _ _ _ _ rfl HZ.out rfl ?_)
                      exact bodyPost_ret (res_pln2 Tryz.results14 rfl rfl (HZ.out.put _) rfl) rfl HE.out
              · have hd1 : ((L0 : Int) == 1) = false ∨ (((L0 : Int) == 1) = true ∧ ((N : Int) != 1) = false) := by
                  by_cases e : L0 = 1
                  · have e2 : N = 1 := Classical.byContradiction (fun h => hone ⟨e, h⟩)
                    exact .inr ⟨beq_iff_eq.2 (by omega), by rw [e2]; rfl⟩
                  · exact .inl (beq_eq_false_iff_ne.2 (by omega))
                by_cases hfit : N = 1 ∨ L0 = N
                · have hd2 : ((N : Int) != 1) = false ∨ (((N : Int) != 1) = true ∧ ((L0 : Int) != (N : Int)) = false) := by
                    by_cases e : N = 1
                    · exact .inl (by rw [e]; rfl)
                    · exact .inr ⟨bne_iff_ne.2 (by omega), by rw [show L0 = N from hfit.resolve_left e]; exact bne_self_eq_false _⟩
                  have GA2 := Lib.hid (GA1.out (.inr hfit))
                  clear GA1
                  obtain ⟨hm, hv⟩ := KM1.out.2 hone hfit
                  subst hm
                  have HV := Lib.hid hv
                  clear hv hone hfit KM1
                  have hd : (((L0 : Int) == 1) = false ∧ ((N : Int) != 1) = false) ∨ (((L0 : Int) == 1) = false ∧ ((N : Int) != 1) = true ∧ ((L0 : Int) != (N : Int)) = false) ∨ (((L0 : Int) == 1) = true ∧ ((N : Int) != 1) = false) := by
                    rcases hd1 with d | ⟨d, d2⟩
                    · rcases hd2 with e | e
                      · exact .inl ⟨d, e⟩
                      · exact .inr (.inl ⟨d, e.1, e.2⟩)
                    · exact .inr (.inr ⟨d, d2⟩)
                  clear hd1 hd2
                  rcases hd with ⟨d1, d2⟩ | ⟨d1, d2, d3⟩ | ⟨d1, d2⟩
                  all_goals
                    go_wp2_with fail
                    obtain ⟨y4, hy4⟩ : ∃ y4, y4 = w5 := ⟨_, rfl⟩
                    subst hy4
                    go_loopw [17, 19] (fun s i wr => ∃ (q : Nat) (a : Option Addr) (c : Nat), q ≤ L0 ∧ s = .slice a (kpN P0 q) c ∧ i = .int .i64 q ∧ Hid (OwnI y4 wr a (kpN P0 q) c hW)) (fun _ i _ => L0 - (intOf i).toNat)
                    case atStart => exact ⟨0, none, 0, by omega, rfl, rfl, OwnI.nil _ _⟩
                    case round =>
                      obtain ⟨q, a, c, hq, rfl, rfl, ho⟩ := hrel
                      have BW := Lib.hid (BB.out.go ho.out.1)
                      by_cases hlt : q < L0
                      · obtain ⟨b2, o2, hab, hb2, hc2⟩ := BW.out.now.2.2.1.get hlt
                        cases hab
                        have hq0 : (0 : Int) ≤ q := by omega
                        have hq1 : (q : Int) < L0 := by omega
                        have hql := kpN_le P0 q
                        by_cases e : P0 q = 1
                        · have hs : kpN P0 (q + 1) = kpN P0 q + 1 := by show (if P0 q = 1 then _ else _) = _; rw [if_pos e]
                          have HS := Lib.hid hs
                          have hv := HV.out q hlt e
                          rw [e] at hc2
                          have d5 : ((1 : Int) == 1) = true := rfl
                          by_cases e1 : N = 1
                          · rw [if_pos e1] at hv
                            have d6 : ((N : Int) == 1) = true := beq_iff_eq.2 (by omega)
                            obtain ⟨a', c', y3, hr3, ho'⟩ := app1_step ho.out hv (by omega)
                            have HO' := Lib.hid ho'
                            clear ho ho' hv hs e e1 d2
                            generalize kpN P0 q = z at *
                            go_wp2_with (at_builtin; refine Lib.wpList_append_run _ rfl _ _ _ _ rfl _ _ rfl rfl _ _ hr3 ?_)
                            go_roundw
                            case rel => exact ⟨q + 1, a', c', by omega, by rw [HS.out], by go_num, by rw [HS.out]; exact HO'⟩
                            case measure => simp [intOf]; omega
                          · rw [if_neg e1] at hv
                            have d6 : ((N : Int) == 1) = false := beq_eq_false_iff_ne.2 (by omega)
                            obtain ⟨a', c', y3, hr3, ho'⟩ := app1_step ho.out hv (by omega)
                            have HO' := Lib.hid ho'
                            clear ho ho' hv hs e e1 d2
                            generalize kpN P0 q = z at *
                            go_wp2_with (at_builtin; refine Lib.wpList_append_run _ rfl _ _ _ _ rfl _ _ rfl rfl _ _ hr3 ?_)
                            go_roundw
                            case rel => exact ⟨q + 1, a', c', by omega, by rw [HS.out], by go_num, by rw [HS.out]; exact HO'⟩
                            case measure => simp [intOf]; omega
                        · have hs : kpN P0 (q + 1) = kpN P0 q := by show (if P0 q = 1 then _ else _) = _; rw [if_neg e]
                          have h0 : P0 q = 0 := (HF.out q hlt).resolve_right e
                          have HS := Lib.hid hs
                          have HO' := Lib.hid ho.out
                          rw [h0] at hc2
                          clear ho hs e h0
                          generalize kpN P0 q = z at *
                          go_wp2
                          go_roundw
                          case rel => exact ⟨q + 1, a, c, by omega, by rw [HS.out], by go_num, by rw [HS.out]; exact HO'⟩
                          case measure => simp [intOf]; omega
                      · have hqm : q = L0 := by omega
                        subst q
                        have HKK := Lib.hid ho.out.krow
                        have HR9 := Lib.hid BW.out.now.2.1
                        have HA9 := Lib.hid (HA.out.below ho.out.1)
                        clear ho hlt hq
                        go_wp2_with (refine ld_pln rfl (.tmp 5) rfl (w.heap.size + 1) rfl HR9.out ?_)
                        go_at_call 35
                        (refine (GA2.out _ _ _ HA9.out HKK.out).mono ?_)
                        rintro e w9 hpt
                        obtain ⟨x9, rfl, hip, hp9, hz9, hb9⟩ := hpt.res2
                        have B9 := BW.out.go hb9
                        have HZ := Lib.hid B9.now.1
                        have HE : Hid (PoTold EE TT RR ch MM eC eB eS eT w (w9.setRow (w.heap.size + 1 + 1) x9) (.returned (.tuple #[.agg x9, .int .i64 EE]))) := Lib.hid ⟨x9, rfl, fun e => (hp9 e).put HZ.out x9, hz9, below_put B9.below (show w.heap.size ≤ w.heap.size + 1 + 1 by omega) x9⟩
                        obtain ⟨q1, q2, q3, q4, q5, q6, q7, q8, q9, q10, hx9⟩ := hip
                        subst hx9
                        clear hpt hp9 hz9 hb9 B9
                        go_wp2_with (refine st_pln rfl (.tmp 8) (.tmp 155) rfl (w.heap.size + 1 + 1) rfl _ _ _ _ _ _ _ _ _ _ rfl HZ.out rfl ?_)
                        exact bodyPost_ret (res_pln2 Tryz.results14 rfl rfl (HZ.out.put _) rfl) rfl HE.out
                · have d2 : ((N : Int) != 1) = true := bne_iff_ne.2 (fun e => hfit (.inl (by omega)))
                  have d3 : ((L0 : Int) != (N : Int)) = true := bne_iff_ne.2 (fun e => hfit (.inr (by omega)))
                  have d1 : ((L0 : Int) == 1) = false := hd1.resolve_right (fun h => by rw [d2] at h; cases h.2)
                  have HQ := Lib.hid (HE241.out hone hfit)
                  clear hd1 hone hfit KM1 GA1
                  have HZ := Lib.hid BB.out.now.1
                  have HE := Lib.hid (HNO.out 24 _ HQ.out (by decide) BB.out.below)
                  go_wp2_with (refine st_pln rfl (.tmp 8) (.tmp 123) rfl (w.heap.size + 1 + 1) rfl none 0 0 false none 0 0 none 0 0 rfl HZ.out rfl ?_)
                  exact bodyPost_ret (res_pln2 Tryz.results14 rfl rfl (HZ.out.put _) rfl) rfl HE.out
  · rw [if_neg hE] at hEE
    generalize liE r0 (whC ch0 L0 P0 Q0) = E0 at *
    have dE : (E0 != 0) = true := bne_iff_ne.2 hE
    have HQ2 := Lib.hid (And.intro hEE.symm hE)
    clear hEE hE h0 h hN0 hks hsh hax hTT hG heC heB heS heT hMM hsh2 HSX hmW hhW hRR hS2 hk hN hhi hNk
    unfold plC
    go_enter Tryz.func14, Tryz.ntmps14
    go_wp2_with (refine ld_pln rfl (.tmp 4) rfl w.heap.size rfl HR1.out ?_)
    go_at_call 25
    (with_reducible refine (LI.out _ ?_).mono ?_)
    · exact H0.out.below B0.out.below
    rintro e w2 ⟨aL, mL, cL, rfl, hk6, hb2⟩
    have BB := Lib.hid (B0.out.go hb2)
    have HZ := Lib.hid BB.out.now.1
    have HE := Lib.hid (HNO.out E0 _ HQ2.out.1 HQ2.out.2 BB.out.below)
    clear hb2 hk6
    go_wp2_with (refine st_pln rfl (.tmp 8) (.tmp 27) rfl (w.heap.size + 1 + 1) rfl none 0 0 false none 0 0 none 0 0 rfl HZ.out rfl ?_)
    exact bodyPost_ret (res_pln2 Tryz.results14 rfl rfl (HZ.out.put _) rfl) rfl HE.out
end Go.Proofs.YtpmcbnliogjknaaGreatDoor

namespace Go.Proofs.YtpmcbnliogjknaaGreatDoor
open Go.RowKit
theorem inB_lt {f d : Nat → Int} : ∀ {n : Nat}, inB f d n = true → ∀ j, j < n → 0 ≤ d j ∧ d j < f j
  | 0, _, j, hj => absurd hj (Nat.not_lt_zero _)
  | n + 1, h, j, hj => by
    have h : (inB f d n && (decide (0 ≤ d n) && decide (d n < f n))) = true := h
    rw [Bool.and_eq_true, Bool.and_eq_true, decide_eq_true_eq, decide_eq_true_eq] at h
    by_cases e : j = n
    · subst e; exact h.2
    · exact inB_lt h.1 j (by omega)
theorem pl_congr9 {S d d' : Nat → Int} : ∀ {r : Nat}, (∀ j, j < r → d j = d' j) → inB S d r = inB S d' r ∧ plc S d r = plc S d' r
  | 0, _ => ⟨rfl, rfl⟩
  | r + 1, h => by
    obtain ⟨h1, h2⟩ := pl_congr9 (S := S) (r := r) (fun j hj => h j (by omega))
    have h3 := h r (by omega)
    constructor
    · show (inB S d r && (decide (0 ≤ d r) && decide (d r < S r))) = (inB S d' r && (decide (0 ≤ d' r) && decide (d' r < S r)))
      rw [h1, h3]
    · show plc S d r * S r + d r = plc S d' r * S r + d' r
      rw [h2, h3]
theorem pkG_same {S T T' : Nat → Int} {r : Nat} {F F' : Nat → Nat → Int} (hsh : shB T r = true) (hT : ∀ j, j < r → T j = T' j) (hF : ∀ j, j < r → ∀ q : Nat, (q : Int) < T j → F j q = F' j q) {k : Nat} (hk : k < (itm T r).toNat) : pkG S T r F k = pkG S T' r F' k := by
  obtain ⟨_, hax⟩ := sh_ax hsh
  have hk2 : (k : Int) < itm T r := by omega
  have hp := itm_pos hax (by omega) hk2
  have hd := inB_lt (dgs_in hp (by omega) hk2).1
  have e : ∀ j, j < r → dgs T r (k : Nat) j = dgs T' r (k : Nat) j := fun j _ => dgs_congr _ _ hT
  obtain ⟨h1, h2⟩ := pkI_congr (F := F) (F' := F') (d := dgs T r (k : Nat)) (S := S) (r := r) (fun j hj => hF j hj _ (by have := hd j hj; omega))
  have h3 : ∀ j, j < r → pkI F' (dgs T r (k : Nat)) j = pkI F' (dgs T' r (k : Nat)) j := fun j hj => by unfold pkI; rw [e j hj]
  obtain ⟨h4, h5⟩ := pl_congr9 (S := S) h3
  unfold pkG
  rw [h1, h2, h4, h5]
theorem sh_count {T : Nat → Int} {r : Nat} (h : shB T r = true) : r ≤ 8 ∧ (itm T r).toNat ≤ 4096 := by
  obtain ⟨h1, h2⟩ := sh_ax h
  have := ax_bd h2
  omega
/-- Two answers that are one. -/
def Cmp (E : Int) (r : Nat) (S T T' : Nat → Int) (F F' : Nat → Nat → Int) : Prop := E = 0 → r ≤ 8 ∧ (itm T r).toNat ≤ 1000000 ∧ (itm T r).toNat = (itm T' r).toNat ∧ (∀ j, j < r → T j = T' j) ∧ ∀ j, j < (itm T r).toNat → pkG S T r F j = pkG S T' r F' j
theorem Cmp.of {E : Int} {r : Nat} {S T T' : Nat → Int} {F F' : Nat → Nat → Int} (hs : E = 0 → shB T r = true) (hT : E = 0 → ∀ j, j < r → T j = T' j) (hF : E = 0 → ∀ j, j < r → ∀ q : Nat, (q : Int) < T j → F j q = F' j q) : Cmp E r S T T' F F' := fun e => by
  obtain ⟨h1, h2⟩ := sh_count (hs e)
  exact ⟨h1, by omega, by rw [itm_congr (hT e)], hT e, fun j hj => pkG_same (hs e) (hT e) (hF e) hj⟩
theorem cf_sh {S : Nat → Int} {r : Nat} (hsh : shB S r = true) (i : Int) : shB (cfS r i S) (cfR r i) = true := by
  unfold cfS cfR
  by_cases e : r = 0 ∧ i ≤ 0
  · rw [if_pos e, if_pos e]; exact (sh_ones (by omega)).1
  · rw [if_neg e, if_neg e]; exact hsh
theorem cf_cmp (ex : Bool) (r0 : Nat) (ch0 : Bool) (L0 : Nat) (P0 : Nat → Int) (Q0 : Nat → Nat) (S : Nat → Int) (r : Nat) (i : Int) (hsh : shB S r = true) :
    Cmp (cfE ex r0 ch0 L0 P0 Q0 S r i) (cfR r i) (cfS r i S) (lnF (cfN ex P0 L0 r i S)) (gaT (cfS r i S) (cfK r i) (wcM ex P0 L0 (cfM r i S))) (cfF ex P0 L0 r i S) (gaF (cfK r i) (wcH ex P0 L0 (cfM r i S))) := by
  have h2 := cf_sh hsh i
  refine Cmp.of (fun e => ?_) (fun _ j hj => ?_) (fun _ j hj q _ => ?_)
  · unfold cfE at e
    by_cases hl : liE r0 (whC ch0 L0 P0 Q0) = 0
    · rw [if_pos hl] at e
      split at e
      · cases e
      · split at e
        · split at e
          · unfold pkE at e
            split at e
            · assumption
            · cases e
          · cases e
        · cases e
    · rw [if_neg hl] at e
      exact absurd e hl
  · have h1 := ax_le4 h2 hj
    unfold gaT wiF
    show (((if j = cfK r i then wcM ex P0 L0 (cfM r i S) else (cfS r i S j).toNat : Nat)) : Int) = _
    by_cases e : j = cfK r i
    · rw [if_pos e, if_pos (by omega)]
    · rw [if_neg e, if_neg (by omega)]; omega
  · unfold cfF gaF
    split
    · rfl
    · omega
theorem showsD_any {x p : Array Value} {E : Int} {S S' : Nat → Int} {r : Nat} {ch : Bool} {M M' : Nat} {g fP : Nat → Int} {fQ : Nat → Nat} {g' : Nat → Int} {fB : Nat → Bool} {fS fT : Nat → ByteArray} {w : World} (h : MoR w x E S r ch M g fP fQ) (hp : PoR w p E S' r ch M' g' fB fS fT)
    (hr : E = 0 → r ≤ 8 ∧ M ≤ 1000000 ∧ M = M' ∧ Small ch M fP fQ ∧ (∀ j, j < r → S j = S' j) ∧ (∀ j, j < tnO ch M → g j = g' j) ∧ ∀ j, j < nnO ch M → rB (fP j) = fB j ∧ rS (fP j) = fS j ∧ str (dec (fQ j)) = fT j) :
    Calls Tryz.prog 12 #[.agg x, .int .i64 E, .agg p, .int .i64 E] w fun e w' => e = .returned (.bool true) ∧ Below w.heap.size w w' := by
  by_cases hE : E = 0
  · subst hE
    obtain ⟨h1, h2, h3, h4, h5, h6, h7⟩ := hr rfl
    subst h3
    exact showsOkC_any x p w ⟨S, r, ch, M, g, fP, fQ, S', g', fB, fS, fT, h.2.1 rfl, hp.2 rfl, h1, h2, h4, h5, h6, h7⟩
  · rw [h.2.2 hE]
    obtain ⟨⟨sa, sn, sc, ch, ta, tn, tc, na, nn, nc, rfl⟩, _⟩ := hp
    exact showsNoC_any E hE _ _ _ _ _ _ _ _ _ _ w
theorem Good.cmp {S0 : Nat → Int} {r0 : Nat} {ch : Bool} {L : Nat} {fB : Nat → Bool} {fS fT : Nat → ByteArray} (hG : Good S0 r0 ch L fB fS fT) {E : Int} {r : Nat} {S T T' : Nat → Int} {F F' : Nat → Nat → Int} (h : Cmp E r S T T' F F') (g : Nat → Int) :
    E = 0 → r ≤ 8 ∧ (itm T r).toNat ≤ 1000000 ∧ (itm T r).toNat = (itm T' r).toNat ∧ Small ch (itm T r).toNat (fun j => elP L (gP fB fS fT) (pkG S T r F j)) (fun j => elQ L (gQ fB fS fT) (pkG S T r F j)) ∧ (∀ j, j < r → T j = T' j) ∧ (∀ j, j < tnO ch (itm T r).toNat → (fun j => elC L g 32 (pkG S T r F j)) j = (fun j => elC L g 32 (pkG S T' r F' j)) j) ∧ ∀ j, j < nnO ch (itm T r).toNat → rB ((fun j => elP L (gP fB fS fT) (pkG S T r F j)) j) = (fun j => elB L fB (pkG S T' r F' j)) j ∧ rS ((fun j => elP L (gP fB fS fT) (pkG S T r F j)) j) = (fun j => elS L fS (rS 0) (pkG S T' r F' j)) j ∧ str (dec ((fun j => elQ L (gQ fB fS fT) (pkG S T r F j)) j)) = (fun j => elS L fT (str (dec 1)) (pkG S T' r F' j)) j := fun e => by
  obtain ⟨h1, h2, h3, h4, h5⟩ := h e
  obtain ⟨e1, e2⟩ := hG.els (fun j => pkG S T r F j) (itm T r).toNat
  have hn := nnO_le ch (itm T r).toNat
  refine ⟨h1, h2, h3, e1, h4, fun j hj => ?_, fun j hj => ?_⟩
  · show elC L g 32 (pkG S T r F j) = elC L g 32 (pkG S T' r F' j)
    rw [h5 j (by omega)]
  · have := e2 j hj
    show rB (elP L (gP fB fS fT) (pkG S T r F j)) = elB L fB (pkG S T' r F' j) ∧ rS (elP L (gP fB fS fT) (pkG S T r F j)) = elS L fS (rS 0) (pkG S T' r F' j) ∧ str (dec (elQ L (gQ fB fS fT) (pkG S T r F j))) = elS L fT (str (dec 1)) (pkG S T' r F' j)
    rw [← h5 j (by omega)]
    exact this
end Go.Proofs.YtpmcbnliogjknaaGreatDoor

namespace Go.Proofs.YtpmcbnliogjknaaGreatDoor
open Go.ChangeShapes Go.WideShapes Go.ChangeAt Go.RowKit
theorem in64_of {f : Nat → Int} {n : Nat} (h : ∀ j, j < n → (Lit.int .i64 (f j)).wf = true) : In64 f n := fun j hj => by
  simpa [Lit.wf, IntKind.min, IntKind.max, IntKind.signed, IntKind.bits] using h j hj
section
variable {H : Type} {enc : TypeId × Value → H} {P : Program} {w : World} {base : Nat} {spare : Nat → Bool} {held : Bool}
end
end Go.Proofs.YtpmcbnliogjknaaGreatDoor

namespace Go.Proofs.YtpmcbnliogjknaaGreatDoor
open Go.ChangeShapes Go.WideShapes Go.ChangeAt Go.RowKit Go.WideMaps Go.WideElems Go.Deep
theorem cellsNum : Tryz.prog.cellsOf 82 = 3 := by kernel_rfl
theorem cellsBool : Tryz.prog.cellsOf 4 = 1 := by kernel_rfl
theorem cellsStr : Tryz.prog.cellsOf 9 = 1 := by kernel_rfl
end Go.Proofs.YtpmcbnliogjknaaGreatDoor

namespace Go.Proofs.YtpmcbnliogjknaaGreatDoor
open Go.ChangeShapes Go.WideShapes Go.ChangeAt Go.RowKit Go.WideMaps Go.WideElems Go.Deep Go.Joins
theorem krow_cells {H : Type} {enc : TypeId × Value → H} {P : Program} {w : World} {base : Nat} {t e : TypeId} {ki : IntKind} {cs : List Value} {fuel : Nat} {x : DataW H × List MemPlace} (ht : P.underlying t = some (.slice e)) (he : P.underlying e = some (.int ki)) (hc : P.cellsOf e = 1)
    (h : DataW.trod enc P w base (fun _ => true) true fuel t cs = some x) :
    ∃ a n c f, cs = [.slice a n c] ∧ KRow w ki a n c f ∧ ∀ j, j < n → (Lit.int ki (f j)).wf = true := by
  rcases open_ints ht he hc h with ⟨hcs, _⟩ | ⟨a, len, cap, zs, hcs, _, hl, hmx, hz, _, hcell, hwz⟩
  · exact ⟨none, 0, 0, fun _ => 0, hcs, ⟨Nat.le_refl _, Nat.zero_le _, .inl rfl⟩, fun j hj => absurd hj (Nat.not_lt_zero _)⟩
  · simp only [if_true] at hz
    refine ⟨some a, len, cap, fun j => zs.getD j 0, hcs, ⟨hl, hmx, ?_⟩, fun j hj => ?_⟩
    · rcases Nat.eq_zero_or_pos len with h0 | h0
      · exact .inl h0
      · obtain ⟨b, off, spot⟩ := a
        have hspot : spot = none := by simpa [Addr.add] using World.cell?_spot (hcell 0 (by omega))
        subst hspot
        have h1 : ∀ j, j < zs.length → w.cell? ⟨b, off + j, none⟩ = some (.int ki (zs.getD j 0)) := fun j hj => by rw [← add_plain]; exact hcell j hj
        exact .inr ⟨b, off, rfl, World.block_lt_of_cell? w _ (h1 0 (by omega)), fun j hj => h1 j (by omega)⟩
    · refine hwz _ ?_
      have : zs.getD j 0 = zs[j]'(by omega) := by simp [List.getD, show j < zs.length by omega]
      show zs.getD j 0 ∈ zs
      rw [this]
      exact List.getElem_mem _
set_option maxRecDepth 100000 in
theorem qrow_cells {H : Type} {enc : TypeId × Value → H} {w : World} {base : Nat} {cs : List Value} {fuel : Nat} {x : DataW H × List MemPlace}
    (h : DataW.trod enc Tryz.prog w base (fun _ => true) true fuel 24 cs = some x) :
    ∃ a n c fB fS fT, cs = [.slice a n c] ∧ QRow w a n c fB fS fT ∧ ∀ j, j < n → (fS j).size ≤ maxLen ∧ (fT j).size ≤ maxLen := by
  rcases open_slice Tryz.underlying24 h with ⟨hcs, _⟩ | ⟨a, len, cap, m, n, D, Pl, hcs, hb, hl, hm, hmm, rfl, hx⟩
  · exact ⟨none, 0, 0, fun _ => false, fun _ => ⟨#[]⟩, fun _ => ⟨#[]⟩, hcs, QRow.nought _ _ _ (Nat.zero_le _) _ _ _, fun j hj => absurd hj (Nat.not_lt_zero _)⟩
  · simp only [if_true] at hmm
    subst hmm
    obtain ⟨b, off, spot⟩ := a
    rcases Nat.eq_zero_or_pos len with h0 | h0
    · subst h0
      exact ⟨_, 0, _, fun _ => false, fun _ => ⟨#[]⟩, fun _ => ⟨#[]⟩, hcs, QRow.nought _ _ _ hm _ _ _, fun j hj => absurd hj (Nat.not_lt_zero _)⟩
    have each : ∀ i, i < m → ∃ q : Bool × ByteArray × ByteArray, w.cell? ((⟨b, off, spot⟩ : Addr).add (i * 3)) = some (.bool q.1) ∧ w.cell? ((⟨b, off, spot⟩ : Addr).add (i * 3 + 1)) = some (.string q.2.1) ∧ w.cell? ((⟨b, off, spot⟩ : Addr).add (i * 3 + 2)) = some (.string q.2.2) ∧ q.2.1.size ≤ maxLen ∧ q.2.2.size ≤ maxLen := by
      intro i hi
      obtain ⟨cs', h1, h2⟩ := hx i hi
      rw [cellsNum] at h1
      obtain ⟨_, hlen, hcell⟩ := World.cells?_some h1
      obtain ⟨y0, y1, y2, k, hxx, _, hy0, hy1, hy2⟩ := trod_struct3 Tryz.underlying82 h2
      match cs', hlen with
      | [c0, c1, c2], _ =>
        obtain ⟨u, e0, rfl⟩ := DataW.trod_bool Tryz.underlying4 hy0
        obtain ⟨s, e1, rfl, hs⟩ := DataW.trod_string Tryz.underlying9 hy1
        obtain ⟨t, e2, rfl, ht⟩ := DataW.trod_string Tryz.underlying9 hy2
        simp [cellsBool] at e0
        simp [cellsStr] at e1 e2
        subst e0 e1 e2
        have g0 := hcell 0 (by omega)
        have g1 := hcell 1 (by omega)
        have g2 := hcell 2 (by omega)
        rw [add_add] at g0 g1 g2
        exact ⟨(u, s, t), by simpa using g0, by simpa using g1, by simpa using g2, hs, ht⟩
    obtain ⟨q, hq⟩ := choose_lt each
    have hspot : spot = none := by simpa [Addr.add] using World.cell?_spot (hq 0 (by omega)).1
    subst hspot
    refine ⟨_, _, _, fun j => (q j).1, fun j => (q j).2.1, fun j => (q j).2.2, hcs, ⟨hl, hm, .inr ⟨b, off, rfl, ?_, fun j hj => ?_⟩⟩, fun j hj => ⟨(hq j (by omega)).2.2.2.1, (hq j (by omega)).2.2.2.2⟩⟩
    · exact World.block_lt_of_cell? w ⟨b, off + 0 * 3, none⟩ (by rw [← add_plain]; exact (hq 0 (by omega)).1)
    · have := hq j (by omega)
      simp only [add_plain] at this
      exact ⟨this.1, this.2.1, this.2.2.1⟩
theorem cellsPln : Tryz.prog.cellsOf 26 = 4 := by kernel_rfl
theorem cellsSlI : Tryz.prog.cellsOf 22 = 1 := by kernel_rfl
theorem cellsSlR : Tryz.prog.cellsOf 23 = 1 := by kernel_rfl
theorem cellsSlN : Tryz.prog.cellsOf 24 = 1 := by kernel_rfl
theorem cellsI : Tryz.prog.cellsOf 3 = 1 := by kernel_rfl
theorem cellsC : Tryz.prog.cellsOf 21 = 1 := by kernel_rfl
set_option maxRecDepth 100000 in
theorem open_pln {H : Type} {enc : TypeId × Value → H} {W : World} {r : Reach} {b0 : Nat} {v0 : Value} {d0 : DataW H} {p0 : List MemPlace}
    (hv : Value.okWide Tryz.prog W r b0 26 v0) (h0 : DataW.Trod enc Tryz.prog W 0 (fun _ => true) true 26 v0 d0 p0) :
    ∃ cs S q ch g tn fB fS fT nn, v0 = .agg cs ∧ PlnAt W cs S q ch g tn fB fS fT nn ∧ In64 S q ∧ ∀ j, j < nn → (fS j).size ≤ maxLen ∧ (fT j).size ≤ maxLen := by
  obtain ⟨cs, rfl, hsz⟩ := okWide_struct Tryz.underlying26 hv
  rw [cellsPln] at hsz
  obtain ⟨l⟩ := cs
  match l, hsz with
  | [c0, c1, c2, c3], _ =>
  obtain ⟨fuel, hf⟩ := h0
  obtain ⟨y0, y1, y2, y3, m, hx, _, hy0, hy1, hy2, hy3⟩ := trod_struct4 Tryz.underlying26 hf
  obtain ⟨sa, r, sc, S, e0, k0, w0⟩ := krow_cells (ki := .i64) Tryz.underlying22 Tryz.underlying3 cellsI hy0
  obtain ⟨ch, e1, rfl⟩ := DataW.trod_bool Tryz.underlying4 hy1
  obtain ⟨ta, tn, tc, g, e2, k2, w2⟩ := krow_cells (ki := .i32) Tryz.underlying23 Tryz.underlying21 cellsC hy2
  obtain ⟨na, nn, nc, fB, fS, fT, e3, k3, w3⟩ := qrow_cells hy3
  simp [Value.cells, cellsSlI] at e0
  simp [Value.cells, cellsBool] at e1
  simp [Value.cells, cellsSlR] at e2
  simp [Value.cells, cellsSlN] at e3
  subst e0 e1 e2 e3
  exact ⟨_, S, r, ch, g, tn, fB, fS, fT, nn, rfl, ⟨sa, sc, ta, tc, na, nc, rfl, k0, k2, k3⟩, in64_of w0, w3⟩
end Go.Proofs.YtpmcbnliogjknaaGreatDoor
