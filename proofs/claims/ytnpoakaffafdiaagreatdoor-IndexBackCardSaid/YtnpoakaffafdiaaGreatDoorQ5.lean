/-
  Texts of this seat, laid together.
-/
import Derived.Deep.AppendLies
import Derived.Deep.RegionLaw
import Derived.Deep.RegionHeld3
import Derived.Below
import Derived.Laws.StructEq
import Derived.Test.YtnpoakaffafdiaaGreatDoorQ1
import Derived.Test.YtnpoakaffafdiaaGreatDoorQ2
import Derived.Test.YtnpoakaffafdiaaGreatDoorQ3
import Derived.Test.YtnpoakaffafdiaaGreatDoorQ4
set_option maxHeartbeats 12800000
set_option maxRecDepth 100000
set_option linter.unusedSimpArgs false
set_option linter.unusedVariables false
namespace Go.Proofs.YtnpoakaffafdiaaGreatDoor
open Go.RowKit
theorem pickN_any (cs : Array Value) (f : Nat -> Int) (r n : Nat) (fP : Nat -> Int) (fQ : Nat -> Nat) (sa : Option Addr) (sr sc : Nat) (S : Nat -> Int) (ta : Option Addr) (tn tc : Nat) (g : Nat -> Int) (w : World) (h : NumArr w cs f r n fP fQ)
    (hs : KRow w .i64 sa sr sc S) (hS : In64 S sr) (ht : KRow w .i64 ta tn tc g) (hg : In64 g tn) (hn : tn <= 1000000) :
    Calls Tryz.prog 41 #[.agg cs, .slice sa sr sc, .slice ta tn tc] w fun e w' => NumsTold (shB S sr && decide (itm S sr = tn)) S sr tn (fun j => elP n fP (g j)) (fun j => elQ n fQ (g j)) w w' e := by
 have HA := Lib.hid h
 obtain ⟨na, nc, rfl, hr⟩ := h
 have PR := Lib.hid (fun wz h h2 => pickRats_any (arrC false ((r : Int) - 1) (dm f r) na n nc none 0 0) f r n fP fQ ta tn tc g wz h h2 hg hn)
 have NU := Lib.hid (fun la lc wz (h : KRow wz .i64 sa sr sc S) h2 => nums_any sa sr sc S la tn lc (fun j => elP n fP (g j)) (fun j => elQ n fQ (g j)) wz h hS h2 hn)
 unfold NumsTold at NU
 have HS := Lib.hid hs
 have HT := Lib.hid ht
 have BB := Lib.hid (((Bag.start w).newRow (arrC false ((r : Int) - 1) (dm f r) na n nc none 0 0) 36).newRow zerC 36)
 simp only [World.size_alloc] at BB
 generalize hb : (shB S sr && decide (itm S sr = tn)) = b at *
 have HR1 := Lib.hid BB.out.now.2.1
 clear hr hs hS ht hg hb
 unfold arrC
 go_enter Tryz.func41, Tryz.ntmps41
 go_wp2_with (refine ld_arr rfl (.tmp 3) rfl w.heap.size rfl HR1.out ?_)
 go_at_call 97
 (with_reducible refine (PR.out _ ?_ ?_).mono ?_)
 · exact HA.out.below BB.out.below
 · exact HT.out.below BB.out.below
 rintro e w2 ⟨a2, c2, rfl, hr2, hb2⟩
 have BB := Lib.hid ((BB.out.go hb2).rrow hr2)
 clear hr2 hb2
 go_wp2_with fail
 go_at_call 53
 (with_reducible refine (NU.out _ _ _ ?_ ?_).mono ?_)
 · exact HS.out.below BB.out.below
 · exact BB.out.now.1
 rintro e w3 ⟨cs3, rfl, hcs, hb3⟩
 have B3 := BB.out.go hb3
 have hr0 := B3.now.2.1
 have HR0 := Lib.hid hr0
 have HBL := Lib.hid B3.below
 have HE : Hid (∃ ch more d na nn nc ta tn' tc, cs3 = arrC ch more d na nn nc ta tn' tc /\ NumsTold b S sr tn (fun j => elP n fP (g j)) (fun j => elQ n fQ (g j)) w (w3.setRow (w.heap.size + 1) cs3) (.returned (.tuple #[.agg cs3, .bool b]))) := by
  cases b with
  | false =>
   rw [if_neg (by decide)] at hcs
   subst hcs
   exact ⟨false, 0, fun _ => 0, none, 0, 0, none, 0, 0, rfl, zerC, rfl, by rw [if_neg (by decide)], below_put HBL.out (Nat.le_succ _) _⟩
  | true =>
   rw [if_pos rfl] at hcs
   obtain ⟨na3, nc3, rfl, hr3⟩ := hcs
   exact ⟨_, _, _, _, _, _, _, _, _, rfl, _, rfl, by rw [if_pos rfl]; exact ⟨na3, nc3, rfl, hr3.away (Row.noLimb hr0) (hr3.ne hr0) (Far.setRow _ _ _)⟩, below_put HBL.out (Nat.le_succ _) _⟩
 clear hcs hb3 B3 hr0
 obtain ⟨ch, more, d, na3, nn3, nc3, ta3, tn3, tc3, rfl, HE⟩ := HE.out
 have HE := Lib.hid HE
 go_wp2_with (refine st_arr rfl (.tmp 6) (.tmp 22) rfl (w.heap.size + 1) rfl _ _ _ _ _ _ _ _ _ rfl HR0.out rfl ?_)
 exact bodyPost_ret (res_arr2 Tryz.results41 rfl rfl (HR0.out.put _) rfl) rfl HE.out
theorem rank_any (ch : Bool) (d : Nat -> Int) (r : Nat) (na : Option Addr) (nn nc : Nat) (ta : Option Addr) (tn tc : Nat) (w : World) (hr : r <= 1000) :
    Calls Tryz.prog 95 #[.agg (arrC ch ((r : Int) - 1) d na nn nc ta tn tc)] w fun e w' => e = .returned (.int .i64 r) /\ Below w.heap.size w w' := by
 have HB : Hid (Below w.heap.size w (w.alloc (.cells (arrC ch ((r : Int) - 1) d na nn nc ta tn tc) 36))) := (Below.refl _ _).alloc (Nat.le_refl _) _
 have HE : Hid (1 + ((r : Int) - 1) = r) := by show _ = _; omega
 unfold arrC at HB
 unfold arrC
 go_enter Tryz.func95, Tryz.ntmps95
 go_wp2
 go_ret
 exact ⟨ret_int HE.out, HB.out⟩
def KTo (w : World) (g n k : Nat) (f : Nat -> Int) : Prop := g < w.heap.size /\ Free w g /\ ∀ j, j < n -> ∃ z, w.cell? ⟨g, j, none⟩ = some (.int .i64 z) /\ (j < k -> z = f j)
theorem KTo.below {w w' : World} {g n k : Nat} {f : Nat -> Int} (h : KTo w g n k f) (hb : Below w.heap.size w w') : KTo w' g n k f := by
 obtain ⟨h1, h2, h3⟩ := h
 refine ⟨Nat.lt_of_lt_of_le h1 hb.size, h2.below hb h1, fun j hj => ?_⟩
 obtain ⟨z, e1, e2⟩ := h3 j hj
 exact ⟨z, (hb.cell (p := ⟨g, _, none⟩) h1).trans e1, e2⟩
theorem KTo.step {w : World} {g n k : Nat} {f : Nat -> Int} (h : KTo w g n k f) (hk : k < n) : KTo (w.setCell ⟨g, k, none⟩ (.int .i64 (f k))) g n (k + 1) f := by
 obtain ⟨h1, h2, h3⟩ := h
 refine ⟨by simpa using h1, h2.set _ _, fun j hj => ?_⟩
 by_cases e : j = k
 · subst e
   obtain ⟨z, e1, _⟩ := h3 j hj
   exact ⟨f j, World.cell?_setCell_same _ _ _ e1, fun _ => rfl⟩
 · obtain ⟨z, e1, e2⟩ := h3 j hj
   exact ⟨z, by rw [World.cell?_setCell_other _ _ _ _ (fun h => by injection h with _ h; omega)]; exact e1, fun h => e2 (by omega)⟩
theorem KTo.done {w : World} {g n : Nat} {f : Nat -> Int} (h : KTo w g n n f) (hn : n <= maxLen) : KRow w .i64 (some ⟨g, 0, none⟩) n n f := by
 refine ⟨Nat.le_refl _, hn, .inr ⟨g, 0, rfl, h.1, fun j hj => ?_⟩⟩
 obtain ⟨z, e1, e2⟩ := h.2.2 j hj
 rw [Nat.zero_add, e1, e2 hj]
theorem KTo.made (w : World) (n : Nat) (t : TypeId) (f : Nat -> Int) {mc : Array Value} (hmc : mc = madeCells (Value.cells (.int .i64 0)) n) : KTo (w.alloc (.cells mc t)) w.heap.size n 0 f := by
 subst hmc
 have hR := Row.new w t (madeCells (Value.cells (.int .i64 0)) n)
 refine ⟨hR.lt, fun o => hR.free o, fun j hj => ⟨0, ?_, fun h => absurd h (Nat.not_lt_zero _)⟩⟩
 rw [hR.cell]
 unfold madeCells
 rw [Array.getElem?_map, Array.getElem?_range, if_pos (by omega), Option.map_some]
 simp [Value.cells, Nat.mod_one]
theorem KTo.place {w : World} {g n k : Nat} {f : Nat -> Int} (h : KTo w g n k f) {j : Nat} (hj : j < n) : (∃ z, w.cell? ⟨g, j, none⟩ = some (.int .i64 z)) /\ w.frozen? ⟨g, j, none⟩ = false := by
 obtain ⟨z, e1, _⟩ := h.2.2 j hj
 exact ⟨⟨z, e1⟩, h.2.1 _⟩
theorem Bag.kto {w0 w : World} {B : World -> Prop} {g n k : Nat} {f : Nat -> Int} (h : Bag w0 B w) (q : KTo w g n k f) : Bag w0 (fun y => KTo y g n k f /\ B y) w := h.add (fun _ _ hb q => KTo.below q hb) q
def whB (fP : Nat -> Int) (fQ : Nat -> Nat) : Nat -> Bool
 | 0 => true
 | k + 1 => whB fP fQ k && (decide (fQ k = 1) && fitB (fP k))
theorem whB_le {fP : Nat -> Int} {fQ : Nat -> Nat} : ∀ {k m : Nat}, k <= m -> whB fP fQ m = true -> whB fP fQ k = true := by
 intro k m
 induction m with
 | zero => intro h h2; obtain rfl : k = 0 := by omega
           exact h2
 | succ m ih =>
  intro h h2
  rcases Nat.lt_or_ge k (m + 1) with h3 | h3
  · refine ih (by omega) ?_
    unfold whB at h2
    rw [Bool.and_eq_true] at h2
    exact h2.1
  · obtain rfl : k = m + 1 := by omega
    exact h2
def WhTold (b : Bool) (n : Nat) (fP : Nat -> Int) (w w' : World) (e : Ending) : Prop := ∃ a m c, e = .returned (.tuple #[.slice a m c, .bool b]) /\ (if b then m = n /\ KRow w' .i64 a n c fP else a = none /\ m = 0 /\ c = 0) /\ Below w.heap.size w w'
theorem whole6_any (cs : Array Value) (f : Nat -> Int) (r n : Nat) (fP : Nat -> Int) (fQ : Nat -> Nat) (w : World) (h : NumArr w cs f r n fP fQ) (hQ : ∀ j, j < n -> 0 < fQ j) (hn : n <= 1000000) :
    Calls Tryz.prog 140 #[.agg cs] w fun e w' => WhTold (whB fP fQ n) n fP w w' e := by
 obtain ⟨i0, hi, hz0, hz1, hz2⟩ := info_parts infoI
 have hmk := fun wz => run_make (P := Tryz.prog) wz 22 3 i0 _ Tryz.underlying22 hi hz0 .i64 .i64 n n (by omega) (by omega) (by rw [hz2]; omega) (by omega)
 simp only [Int.toNat_natCast, hz1, Nat.mul_one] at hmk
 obtain ⟨na, nc, rfl, hr⟩ := h
 have HR := Lib.hid hr
 have hl := hr.len
 have HQ := Lib.hid hQ
 have IN := Lib.hid (fun a n c m a2 n2 c2 P Q wz h hq => ratInt_any a n c m a2 n2 c2 P Q wz h hq)
 have hR0 : Row (w.alloc (.cells (arrC false ((r : Int) - 1) (dm f r) na n nc none 0 0) 36)) w.heap.size 36 _ := Row.new _ _ _
 have H0 : Hid (Below w.heap.size w ((w.alloc (.cells (arrC false ((r : Int) - 1) (dm f r) na n nc none 0 0) 36)).alloc (.cells (madeCells (Value.cells (.int .i64 0)) n) 3)) /\ KTo ((w.alloc (.cells (arrC false ((r : Int) - 1) (dm f r) na n nc none 0 0) 36)).alloc (.cells (madeCells (Value.cells (.int .i64 0)) n) 3)) (w.heap.size + 1) n 0 fP /\ whB fP fQ 0 = true) :=
  ⟨((Below.refl _ _).alloc (Nat.le_refl _) _).alloc (by simp) _, by have := KTo.made (w.alloc (.cells (arrC false ((r : Int) - 1) (dm f r) na n nc none 0 0) 36)) n 3 fP rfl; rwa [World.size_alloc] at this, rfl⟩
 unfold arrC at H0
 unfold arrC
 clear hr hi hz0 hz1 hz2 hR0 hQ
 go_enter Tryz.func140, Tryz.ntmps140
 go_wp2_with fail
 go_loopw [20] (fun i wr => ∃ k : Nat, k <= n /\ i = .int .i64 k /\ Hid (Below w.heap.size w wr /\ KTo wr (w.heap.size + 1) n k fP /\ whB fP fQ k = true)) (fun i _ => n - (intOf i).toNat)
 case atStart => exact ⟨0, by omega, rfl, H0.out⟩
 case round =>
  obtain ⟨k, hk, rfl, hrel⟩ := hrel
  obtain ⟨hbl, hto, hwh⟩ := hrel.out
  have hwr := hbl.size
  by_cases hlt : k < n
  · obtain ⟨b, off, a', n', c', m', a2', n2', c2', rfl, hlb, e1, e2, e3, hi'⟩ := (HR.out.below hbl).get hlt
    have BB := Lib.hid ((((Bag.start wr).kto hto).rat hi').alloc (.cells #[.slice a' n' c', .bool m', .slice a2' n2' c2'] 60))
    have HBL := Lib.hid hbl
    have HWH := Lib.hid hwh
    clear hbl hto hi' hwh
    go_wp2_with fail
    go_at_call 173
    (with_reducible refine (IN.out _ _ _ _ _ _ _ (fP k) (fQ k) _ ?_ ?_).mono ?_)
    · exact BB.out.now.1
    · exact HQ.out k hlt
    rintro e w2 ⟨rfl, hb2⟩
    have B2 := BB.out.go hb2
    have hto := B2.now.2.1
    obtain ⟨⟨z, x1⟩, y1⟩ := hto.place hlt
    have hbb := HBL.out.trans (B2.below.mono hwr)
    by_cases hok : (decide (fQ k = 1) && fitB (fP k)) = true
    · have hv : (if fQ k = 1 then fitI (fP k) else 0) = fP k := by
        rw [Bool.and_eq_true, decide_eq_true_eq] at hok
        rw [if_pos hok.1]; unfold fitI; rw [if_pos hok.2]
      have HN : Hid (Below w.heap.size w (w2.setCell ⟨w.heap.size + 1, k, none⟩ (.int .i64 (fP k))) /\ KTo (w2.setCell ⟨w.heap.size + 1, k, none⟩ (.int .i64 (fP k))) (w.heap.size + 1) n (k + 1) fP /\ whB fP fQ (k + 1) = true) :=
       ⟨hbb.setCell (p := ⟨w.heap.size + 1, k, none⟩) (Nat.le_succ _) _, hto.step hlt, by show (whB fP fQ k && _) = true; rw [HWH.out, hok]; rfl⟩
      rw [hok, hv]
      clear hto hb2 B2 hbb hv hok e1 e2 e3
      generalize fP k = x at *
      go_wp2
      go_roundw
      case rel => exact ⟨k + 1, by omega, by go_num, HN.out⟩
      case measure => simp [intOf]; omega
    · rw [Bool.not_eq_true] at hok
      have hno : whB fP fQ n = false := by
       cases hx : whB fP fQ n with
       | false => rfl
       | true =>
        have := whB_le (k := k + 1) (by omega) hx
        unfold whB at this
        rw [hok, Bool.and_false] at this
        exact this.symm
      rw [hok]
      have HE : Hid (WhTold (whB fP fQ n) n fP w w2 (.returned (.tuple #[.slice none 0 0, .bool false]))) := by
       rw [hno]
       exact ⟨_, _, _, rfl, by rw [if_neg (by decide)]; exact ⟨rfl, rfl, rfl⟩, hbb⟩
      generalize (if fQ k = 1 then fitI (fP k) else 0) = x at *
      clear hto hb2 B2 hbb hno hok e1 e2 e3
      go_wp2
      go_ret2
      exact HE.out
  · obtain rfl : k = n := by omega
    have HE : Hid (WhTold (whB fP fQ k) k fP w wr (.returned (.tuple #[.slice (some ⟨w.heap.size + 1, 0, none⟩) k k, .bool true]))) := by
     rw [hwh]
     exact ⟨_, _, _, rfl, by rw [if_pos rfl]; exact ⟨rfl, hto.done (by unfold maxLen; omega)⟩, hbl⟩
    clear hbl hto hwh
    go_wp2
    go_ret2
    exact HE.out
def lt (l : List Int) (j : Nat) : Int := l.getD j 0
theorem KRow.lits (w : World) (l : List Int) (t : TypeId) (h : l.length <= 1000) {cs : Array Value} (hc : cs = (l.map (Value.int .i64)).toArray) : KRow (w.alloc (.cells cs t)) .i64 (some ⟨w.heap.size, 0, none⟩) l.length l.length (lt l) := by
 subst hc
 refine ⟨Nat.le_refl _, by unfold maxLen; omega, .inr ⟨_, 0, rfl, by simp, fun j hj => ?_⟩⟩
 have := (Row.new w t (l.map (Value.int .i64)).toArray).cell (0 + j)
 rw [this, Nat.zero_add]
 simp [lt, hj]
theorem lt64 {l : List Int} (h : l.all (fun x => decide (-9223372036854775808 <= x /\ x <= 9223372036854775807)) = true) (n : Nat) : In64 (lt l) n := by
 intro j _
 unfold lt
 by_cases hj : j < l.length
 · have := List.all_eq_true.1 h (l[j]) (List.getElem_mem hj)
   rw [decide_eq_true_eq] at this
   simpa [List.getD, hj] using this
 · simp [List.getD, hj]
theorem KRow.of_box {w : World} {k : Nat} {t : TypeId} {ch : Bool} {f : Nat -> Int} {r : Nat} {na : Option Addr} {nn nc : Nat} {ta : Option Addr} {tn tc : Nat} {more : Int} (h : Row w k t (arrC ch more (dm f r) na nn nc ta tn tc)) (hr : r <= 8) : KRow w .i64 (some ⟨k, 2, none⟩) r 8 f := by
 refine ⟨hr, by unfold maxLen; omega, .inr ⟨k, 2, rfl, h.lt, fun j hj => ?_⟩⟩
 have hd : dm f r j = f j := by unfold dm; rw [if_pos hj]
 have hc := h.cell (2 + j)
 rw [hc, ← hd]
 have hn : j = 0 ∨ j = 1 ∨ j = 2 ∨ j = 3 ∨ j = 4 ∨ j = 5 ∨ j = 6 ∨ j = 7 := by omega
 rcases hn with rfl | rfl | rfl | rfl | rfl | rfl | rfl | rfl <;> rfl
theorem shape_any (ch : Bool) (f : Nat -> Int) (r : Nat) (na : Option Addr) (nn nc : Nat) (ta : Option Addr) (tn tc : Nat) (w : World) (hr : r <= 8) :
    Calls Tryz.prog 40 #[.agg (arrC ch ((r : Int) - 1) (dm f r) na nn nc ta tn tc)] w fun e w' => ∃ a c, e = .returned (.slice a r c) /\ KRow w' .i64 a r c f /\ Below w.heap.size w w' := by
 have RK := Lib.hid (fun wz => rank_any ch (dm f r) r na nn nc ta tn tc wz (by omega))
 have CL := Lib.hid (fun a c wz h => cloneI_any a r c f wz h (by omega))
 have BB := Lib.hid ((Bag.start w).newRow (arrC ch ((r : Int) - 1) (dm f r) na nn nc ta tn tc) 36)
 have HR := Lib.hid BB.out.now.1
 have h0 : (0 : Int) <= r := by omega
 have h8 : (r : Int) <= 8 := by omega
 unfold arrC
 go_enter Tryz.func40, Tryz.ntmps40
 go_wp2_with (refine ld_arr rfl (.tmp 1) rfl w.heap.size rfl HR.out ?_)
 go_at_call 95
 (with_reducible refine (RK.out _).mono ?_)
 rintro e w2 ⟨rfl, hb2⟩
 have BB := Lib.hid (BB.out.go hb2)
 clear hb2
 go_wp2_with fail
 go_at_call 94
 (with_reducible refine (CL.out _ _ _ ?_).mono ?_)
 · exact KRow.of_box BB.out.now.1 hr
 rintro e w3 ⟨a3, c3, rfl, hk3, hb3⟩
 have HE : Hid (KRow w3 .i64 a3 r c3 f /\ Below w.heap.size w w3) := ⟨hk3, (BB.out.go hb3).below⟩
 clear hk3 hb3
 go_wp2
 go_ret
 exact ⟨a3, c3, rfl, HE.out⟩
theorem runes_any (ch : Bool) (more : Int) (d : Nat -> Int) (na : Option Addr) (nn nc : Nat) (ta : Option Addr) (tn tc : Nat) (g : Nat -> Int) (w : World) (h : KRow w .i32 ta tn tc g) (ht : tn <= 1000000) :
    Calls Tryz.prog 52 #[.agg (arrC ch more d na nn nc ta tn tc)] w fun e w' => ∃ a c, e = .returned (.slice a tn c) /\ KRow w' .i32 a tn c g /\ Below w.heap.size w w' := by
 have CL := Lib.hid (fun wz h => cloneC_any ta tn tc g wz h ht)
 have BB := Lib.hid (((Bag.start w).krow h).newRow (arrC ch more d na nn nc ta tn tc) 36)
 clear h
 unfold arrC at BB
 unfold arrC
 go_enter Tryz.func52, Tryz.ntmps52
 go_wp2_with fail
 go_at_call 105
 (with_reducible refine (CL.out _ BB.out.now.2.1).mono ?_)
 rintro e w3 ⟨a3, c3, rfl, hk3, hb3⟩
 have HE : Hid (KRow w3 .i32 a3 tn c3 g /\ Below w.heap.size w w3) := ⟨hk3, (BB.out.go hb3).below⟩
 clear hk3 hb3
 go_wp2
 go_ret
 exact ⟨a3, c3, rfl, HE.out⟩
theorem len_any (ch : Bool) (more : Int) (d : Nat -> Int) (na : Option Addr) (nn nc : Nat) (ta : Option Addr) (tn tc : Nat) (w : World) :
    Calls Tryz.prog 19 #[.agg (arrC ch more d na nn nc ta tn tc)] w fun e w' => e = .returned (.int .i64 (if ch then (tn : Int) else (nn : Int))) /\ Below w.heap.size w w' := by
 have HB : Hid (Below w.heap.size w (w.alloc (.cells (arrC ch more d na nn nc ta tn tc) 36))) := (Below.refl _ _).alloc (Nat.le_refl _) _
 unfold arrC at HB
 unfold arrC
 cases ch
 · rw [if_neg (by decide)]
   go_enter Tryz.func19, Tryz.ntmps19
   go_wp2
   go_ret
   exact ⟨rfl, HB.out⟩
 · rw [if_pos rfl]
   go_enter Tryz.func19, Tryz.ntmps19
   go_wp2
   go_ret
   exact ⟨rfl, HB.out⟩
def QRow (w : World) (sa : Option Addr) (n c : Nat) (fB : Nat -> Bool) (fS fT : Nat -> ByteArray) : Prop := n <= c /\ c <= maxLen /\ (n = 0 ∨ ∃ b off, sa = some ⟨b, off, none⟩ /\ b < w.heap.size /\
 ∀ j, j < n -> w.cell? ⟨b, off + j * 3, none⟩ = some (.bool (fB j)) /\ w.cell? ⟨b, off + j * 3 + 1, none⟩ = some (.string (fS j)) /\ w.cell? ⟨b, off + j * 3 + 2, none⟩ = some (.string (fT j)))
theorem QRow.below {w w' : World} {sa : Option Addr} {n c : Nat} {fB : Nat -> Bool} {fS fT : Nat -> ByteArray} (h : QRow w sa n c fB fS fT) (hb : Below w.heap.size w w') : QRow w' sa n c fB fS fT := by
 obtain ⟨h0, h1, h2⟩ := h
 refine ⟨h0, h1, h2.imp id ?_⟩
 rintro ⟨b, off, rfl, hl, hc⟩
 refine ⟨b, off, rfl, Nat.lt_of_lt_of_le hl hb.size, fun j hj => ?_⟩
 obtain ⟨e1, e2, e3⟩ := hc j hj
 exact ⟨(hb.cell (p := ⟨b, _, none⟩) hl).trans e1, (hb.cell (p := ⟨b, _, none⟩) hl).trans e2, (hb.cell (p := ⟨b, _, none⟩) hl).trans e3⟩
theorem QRow.get {w : World} {sa : Option Addr} {n c : Nat} {fB : Nat -> Bool} {fS fT : Nat -> ByteArray} (h : QRow w sa n c fB fS fT) {j : Nat} (hj : j < n) :
    ∃ b off, sa = some ⟨b, off, none⟩ /\ b < w.heap.size /\ w.cell? ⟨b, off + j * 3, none⟩ = some (.bool (fB j)) /\ w.cell? ⟨b, off + j * 3 + 1, none⟩ = some (.string (fS j)) /\ w.cell? ⟨b, off + j * 3 + 2, none⟩ = some (.string (fT j)) := by
 rcases h.2.2 with h2 | ⟨b, off, rfl, hl, hc⟩
 · omega
 · exact ⟨b, off, rfl, hl, hc j hj⟩
theorem QRow.len {w : World} {sa : Option Addr} {n c : Nat} {fB : Nat -> Bool} {fS fT : Nat -> ByteArray} (h : QRow w sa n c fB fS fT) : n <= c /\ n <= 9223372036854775807 := by
 have h1 := h.1
 have h2 := h.2.1
 unfold maxLen at h2
 exact ⟨h1, by omega⟩
theorem QRow.nought (w : World) (a : Option Addr) (c : Nat) (hc : c <= maxLen) (fB : Nat -> Bool) (fS fT : Nat -> ByteArray) : QRow w a 0 c fB fS fT := ⟨Nat.zero_le _, hc, .inl rfl⟩
theorem Bag.qrow {w0 w : World} {B : World -> Prop} {a : Option Addr} {n c : Nat} {fB : Nat -> Bool} {fS fT : Nat -> ByteArray} (h : Bag w0 B w) (q : QRow w a n c fB fS fT) : Bag w0 (fun y => QRow y a n c fB fS fT /\ B y) w := h.add (fun _ _ hb q => QRow.below q hb) q
def plC (sa : Option Addr) (sn sc : Nat) (ch : Bool) (ta : Option Addr) (tn tc : Nat) (na : Option Addr) (nn nc : Nat) : Array Value := #[.slice sa sn sc, .bool ch, .slice ta tn tc, .slice na nn nc]
def PlnAt (w : World) (cs : Array Value) (S : Nat -> Int) (r : Nat) (ch : Bool) (g : Nat -> Int) (tn : Nat) (fB : Nat -> Bool) (fS fT : Nat -> ByteArray) (nn : Nat) : Prop :=
 ∃ sa sc ta tc na nc, cs = plC sa r sc ch ta tn tc na nn nc /\ KRow w .i64 sa r sc S /\ KRow w .i32 ta tn tc g /\ QRow w na nn nc fB fS fT
theorem PlnAt.below {w w' : World} {cs : Array Value} {S : Nat -> Int} {r : Nat} {ch : Bool} {g : Nat -> Int} {tn : Nat} {fB : Nat -> Bool} {fS fT : Nat -> ByteArray} {nn : Nat} (h : PlnAt w cs S r ch g tn fB fS fT nn) (hb : Below w.heap.size w w') : PlnAt w' cs S r ch g tn fB fS fT nn := by
 obtain ⟨sa, sc, ta, tc, na, nc, e, h1, h2, h3⟩ := h
 exact ⟨sa, sc, ta, tc, na, nc, e, h1.below hb, h2.below hb, h3.below hb⟩
theorem infoN : (Tryz.prog.info? 53).map (fun i => (i.zero, i.size, i.bytes)) = some (some (.agg #[.bool false, .string ⟨#[]⟩, .string ⟨#[]⟩]), 3, 40) := by kernel_rfl
def qcs (fB : Nat -> Bool) (fS fT : Nat -> ByteArray) : Nat -> List Value
 | 0 => []
 | k + 1 => qcs fB fS fT k ++ [.bool (fB k), .string (fS k), .string (fT k)]
theorem qcs_length (fB : Nat -> Bool) (fS fT : Nat -> ByteArray) : ∀ k, (qcs fB fS fT k).length = k * 3
 | 0 => rfl
 | k + 1 => by unfold qcs; rw [List.length_append, qcs_length fB fS fT k]; simp; omega
theorem qcs_get (fB : Nat -> Bool) (fS fT : Nat -> ByteArray) : ∀ k j, j < k -> (qcs fB fS fT k)[j * 3]? = some (.bool (fB j)) /\ (qcs fB fS fT k)[j * 3 + 1]? = some (.string (fS j)) /\ (qcs fB fS fT k)[j * 3 + 2]? = some (.string (fT j))
 | 0, j, h => absurd h (Nat.not_lt_zero _)
 | k + 1, j, h => by
  have hl := qcs_length fB fS fT k
  unfold qcs
  by_cases e : j = k
  · subst e
    refine ⟨?_, ?_, ?_⟩
    · rw [List.getElem?_append_right (by omega), hl, show j * 3 - j * 3 = 0 by omega]; rfl
    · rw [List.getElem?_append_right (by omega), hl, show j * 3 + 1 - j * 3 = 1 by omega]; rfl
    · rw [List.getElem?_append_right (by omega), hl, show j * 3 + 2 - j * 3 = 2 by omega]; rfl
  · obtain ⟨e1, e2, e3⟩ := qcs_get fB fS fT k j (by omega)
    refine ⟨?_, ?_, ?_⟩
    · rw [List.getElem?_append_left (by omega)]; exact e1
    · rw [List.getElem?_append_left (by omega)]; exact e2
    · rw [List.getElem?_append_left (by omega)]; exact e3
theorem QRow.of_own {w : World} {base : Nat} {v : Value} {n : Nat} {fB : Nat -> Bool} {fS fT : Nat -> ByteArray} (h : w.ownsRow base 53 3 v n (qcs fB fS fT n)) : ∃ a c, v = .slice a n c /\ QRow w a n c fB fS fT := by
 rcases h.2 with ⟨rfl, rfl⟩ | ⟨g, cap, cur, rfl, _, hh, h1, h2, _, hcs⟩
 · exact ⟨none, 0, rfl, QRow.nought _ _ _ (Nat.zero_le _) _ _ _⟩
 · refine ⟨some ⟨g, 0, none⟩, cap, rfl, h1, h2, .inr ⟨g, 0, rfl, Row.lt (t := 53) hh, fun j hj => ?_⟩⟩
   have hc : ∀ i u, (qcs fB fS fT n)[i]? = some u -> w.cell? ⟨g, 0 + i, none⟩ = some u := fun i u hu => by
    have := h.cells (g := g) rfl i u hu
    rwa [show (⟨g, 0, none⟩ : Addr).add i = ⟨g, 0 + i, none⟩ by unfold Addr.add; split <;> simp_all] at this
   obtain ⟨e1, e2, e3⟩ := qcs_get fB fS fT n j hj
   exact ⟨hc _ _ e1, by rw [show 0 + j * 3 + 1 = 0 + (j * 3 + 1) by omega]; exact hc _ _ e2, by rw [show 0 + j * 3 + 2 = 0 + (j * 3 + 2) by omega]; exact hc _ _ e3⟩
theorem Row.grown {w w' : World} {g : Nat} {t : TypeId} {cs : Array Value} {row : Option Nat} (h : Row w g t cs) (hg : w.grownBy w' row) (e : some g ≠ row) : Row w' g t cs := (hg.block g h.lt e).trans h
theorem Row.apart {w : World} {g : Nat} {t e : TypeId} {cs : Array Value} {base size n : Nat} {v : Value} {xs : List Value} (h : Row w g t cs) (ho : w.ownsRow base e size v n xs) (hne : e ≠ t) : some g ≠ v.ownBlock := by
 rcases ho.2 with ⟨rfl, _⟩ | ⟨g', cap, cur, rfl, _, hh, _⟩
 · simp [Value.ownBlock]
 · intro he
   have : g = g' := by simpa [Value.ownBlock] using he
   subst this
   unfold Row at h
   rw [h] at hh
   injection hh with hh
   injection hh with _ hh
   exact hne hh.symm
theorem Row.ne {w : World} {g g' : Nat} {t t' : TypeId} {cs cs' : Array Value} (h : Row w g t cs) (h' : Row w g' t' cs') (e : t ≠ t') : g ≠ g' := by
 rintro rfl
 unfold Row at h h'
 rw [h] at h'
 injection h' with h'
 injection h' with _ h'
 exact e h'
end Go.Proofs.YtnpoakaffafdiaaGreatDoor
namespace Go.Proofs.YtnpoakaffafdiaaGreatDoor
open Go Go.RowKit
def dstI (ops : Array Oper) (i : Nat) : Option Nat := (ops[i]?).bind (·.dst)
def aft (md : Region.Mode) (ops : Array Oper) (i : Nat) : List Nat := ((ops[i]?).map (fun o => (o.after.filter (Region.binds md)).toList.map (·.on))).getD []
def vw (a : Act) (l : List Nat) : List (Option Value) := l.map (fun t => a.tmps[t]?)
def stays (ops : Array Oper) (t : Nat) : Bool := (List.range ops.size).all fun i => !(dstI ops i == some t)
structure Plan where
 D : Nat -> List Nat
 pre : Nat -> List Nat
 al : List Nat
def Plan.ok (L : Plan) (md : Region.Mode) (ops : Array Oper) (m : Nat) : Bool :=
 (List.range ops.size).all fun i => (aft md ops i).all (fun e => decide (e < i)) &&
   ((L.pre i).all fun e => (aft md ops i).contains e || (aft md ops i).any fun k => (L.pre k).contains e) &&
   (match dstI ops i with
     | none => true
     | some d => decide (d < m) && (List.range ops.size).all fun j => decide (i = j) || ((!(L.D j).contains d || (L.pre j).contains i) && !(dstI ops j == some d)))
def Ptr (a : Act) (ops : Array Oper) (i k : Nat) : Prop := ∃ d, dstI ops i = some d /\ a.tmps[d]? = some (.pointer (some ⟨k, 0, none⟩))
structure Inv (md : Region.Mode) (ops : Array Oper) (L : Plan) (p : Nat -> List (Option Value) -> World -> Prop) (B : World -> Prop) (a0 : Act) (listed : Array Bool) (a : Act) (w : World) : Prop where
 lsz : listed.size = ops.size
 asz : a.tmps.size = a0.tmps.size
 dfs : a.defers = a0.defers
 old : ∀ t, stays ops t = true -> a.tmps[t]? = a0.tmps[t]?
 bag : B w
 fct : ∀ j, listed.getD j false = true -> p j (vw a (L.D j)) w
 clo : ∀ j, listed.getD j false = true -> ∀ i ∈ L.pre j, listed.getD i false = true
 alo : ∀ i ∈ L.al, listed.getD i false = true -> ∃ k, Ptr a ops i k /\ k < w.heap.size
 apt : ∀ i ∈ L.al, ∀ j ∈ L.al, i ≠ j -> listed.getD i false = true -> listed.getD j false = true -> ∀ k, Ptr a ops i k -> ¬ Ptr a ops j k
structure Laid (ops : Array Oper) (L : Plan) (p : Nat -> List (Option Value) -> World -> Prop) (B : World -> Prop) (i : Nat) (o : Oper) (a : Act) (w : World) (v : Value) (w' : World) : Prop where
 bag : B w'
 fct : p i ((L.D i).map (fun t => if o.dst = some t then some v else a.tmps[t]?)) w'
 size : w.heap.size <= w'.heap.size
 stay : Below w.heap.size w w' ∨ ∀ j, j ≠ i -> (∀ x ∈ L.al, ∀ y ∈ L.al, x ≠ y -> x ∈ L.pre i -> (y ∈ L.pre j ∨ y = j) -> ∀ k, Ptr a ops x k -> ¬ Ptr a ops y k) -> p j (vw a (L.D j)) w -> p j (vw a (L.D j)) w'
 ptr : i ∈ L.al -> ∃ k, v = .pointer (some ⟨k, 0, none⟩) /\ w.heap.size <= k /\ k < w'.heap.size
def Stp (P : Program) (ops : Array Oper) (Q : Exit -> Act -> World -> Prop) (L : Plan) (p : Nat -> List (Option Value) -> World -> Prop) (B : World -> Prop) (a0 : Act) (i : Nat) (o : Oper) : Prop :=
 ∀ a w, a.tmps.size = a0.tmps.size -> (∀ t, stays ops t = true -> a.tmps[t]? = a0.tmps[t]?) -> B w -> (∀ j ∈ L.pre i, p j (vw a (L.D j)) w) ->
  ∀ K : Act -> World -> Prop, Shut (∀ v w', Laid ops L p B i o a w v w' -> K (a.put o.dst v) w') -> if Region.wanted o (yielded ops a.tmps) = true then Oper.wp P o a w K Q else K (a.put o.dst undef) w
inductive Stps (P : Program) (ops : Array Oper) (Q : Exit -> Act -> World -> Prop) (L : Plan) (p : Nat -> List (Option Value) -> World -> Prop) (B : World -> Prop) (a0 : Act) : Nat -> List Oper -> Prop
 | nil (i : Nat) : Stps P ops Q L p B a0 i []
 | cons {i : Nat} {o : Oper} {l : List Oper} : Stp P ops Q L p B a0 i o -> Stps P ops Q L p B a0 (i + 1) l -> Stps P ops Q L p B a0 i (o :: l)
section
variable {P : Program} {md : Region.Mode} {ops : Array Oper} {Q : Exit -> Act -> World -> Prop} {L : Plan} {p : Nat -> List (Option Value) -> World -> Prop} {B : World -> Prop} {a0 : Act}
theorem Stps.get : ∀ {l : List Oper} {i : Nat}, Stps P ops Q L p B a0 i l -> ∀ k o, l[k]? = some o -> Stp P ops Q L p B a0 (i + k) o := by
 intro l
 induction l with
 | nil => intro i _ k o h; simp at h
 | cons x l ih =>
  intro i h k o hk
  cases h with
  | cons h1 h2 =>
   cases k with
   | zero => simp at hk; subst hk; exact h1
   | succ k => have := ih h2 k o (by simpa using hk); rwa [Nat.add_assoc, Nat.add_comm 1 k] at this
theorem cnt_set (f g : Nat -> Bool) (i : Nat) (hf : f i = true) (hg : g i = false) (he : ∀ j, j ≠ i -> g j = f j) : ∀ n, (List.range n).countP f = (List.range n).countP g + if i < n then 1 else 0 := by
 intro n
 induction n with
 | zero => simp
 | succ n ih =>
  rw [List.range_succ, List.countP_append, List.countP_append, ih]
  by_cases h : n = i
  · subst h; simp [hf, hg]
  · have : g n = f n := he n h
    simp only [List.countP_cons, List.countP_nil, this]
    have h2 : (i < n) = (i < n + 1) := by apply propext; omega
    simp only [h2]; omega
theorem Plan.ok_spec (h : L.ok md ops a0.tmps.size = true) {i : Nat} (hi : i < ops.size) :
    (∀ e ∈ aft md ops i, e < i) /\ (∀ e ∈ L.pre i, e ∈ aft md ops i ∨ ∃ k ∈ aft md ops i, e ∈ L.pre k) /\
    ∀ d, dstI ops i = some d -> d < a0.tmps.size /\ ∀ j, j < ops.size -> i ≠ j -> (d ∈ L.D j -> i ∈ L.pre j) /\ dstI ops j ≠ some d := by
 unfold Plan.ok at h
 rw [List.all_eq_true] at h
 have h := h i (List.mem_range.2 hi)
 simp only [Bool.and_eq_true, List.all_eq_true, decide_eq_true_eq, Bool.or_eq_true, List.contains_iff_mem, List.any_eq_true] at h
 refine ⟨h.1.1, h.1.2, ?_⟩
 intro d hd
 have h2 := h.2
 rw [hd] at h2
 simp only [Bool.and_eq_true, List.all_eq_true, decide_eq_true_eq, Bool.or_eq_true, List.contains_iff_mem, Bool.not_eq_true', List.mem_range] at h2
 refine ⟨h2.1, fun j hj hij => ?_⟩
 rcases h2.2 j hj with h3 | h3
 · exact absurd h3 hij
 · refine ⟨fun hm => ?_, by simpa using h3.2⟩
   rcases h3.1 with h4 | h4
   · rw [Bool.eq_false_iff] at h4; exact absurd (List.contains_iff_mem.2 hm) h4
   · exact h4
theorem lgd {listed : Array Bool} {i j : Nat} (hi : i < listed.size) : (listed.setIfInBounds i true).getD j false = (decide (i = j) || listed.getD j false) := by
 by_cases h : i = j
 · subst h; simp [hi]
 · simp [h]
theorem lgt {listed : Array Bool} {j : Nat} (h : listed.getD j true = false) : j < listed.size /\ listed.getD j false = false := by
 by_cases hj : j < listed.size
 · simp [hj] at h ⊢; exact h
 · simp [Nat.le_of_not_lt hj] at h
theorem aft_mem {i : Nat} {o : Oper} (ho : ops[i]? = some o) {e : Nat} : e ∈ aft md ops i ↔ ∃ x ∈ o.after, Region.binds md x = true /\ x.on = e := by
 unfold aft
 rw [ho]
 simp only [Option.map_some, Option.getD_some, List.mem_map, Array.mem_toList_iff, Array.mem_filter]
 constructor
 · rintro ⟨x, ⟨h1, h2⟩, h3⟩; exact ⟨x, h1, h2, h3⟩
 · rintro ⟨x, h1, h2, h3⟩; exact ⟨x, ⟨h1, h2⟩, h3⟩
theorem Inv.step (ok : L.ok md ops a0.tmps.size = true) (hal : L.al.all (fun i => (dstI ops i).isSome) = true) (stay : ∀ j v w w', Below w.heap.size w w' -> p j v w -> p j v w') {listed : Array Bool} {a : Act} {w : World} (I : Inv md ops L p B a0 listed a w) {i : Nat} {o : Oper} (ho : ops[i]? = some o)
    (hu : listed.getD i true = false) (hr : ∀ e ∈ o.after, Region.binds md e = true -> listed.getD e.on false = true) {v : Value} {w' : World} (G : Laid ops L p B i o a w v w') :
    Inv md ops L p B a0 (listed.setIfInBounds i true) (a.put o.dst v) w' := by
 have hi : i < ops.size := (Array.getElem?_eq_some_iff.1 ho).1
 have hil : i < listed.size := by rw [I.lsz]; exact hi
 have hun := (lgt hu).2
 obtain ⟨c1, c2, c3⟩ := Plan.ok_spec ok hi
 have hd : dstI ops i = o.dst := by unfold dstI; rw [ho]; rfl
 have hpre : ∀ e ∈ L.pre i, listed.getD e false = true := by
  intro e he
  rcases c2 e he with h | ⟨k, hk, hek⟩
  · obtain ⟨x, h1, h2, rfl⟩ := (aft_mem ho).1 h; exact hr x h1 h2
  · obtain ⟨x, h1, h2, rfl⟩ := (aft_mem ho).1 hk; exact I.clo _ (hr x h1 h2) e hek
 have hput : ∀ t, (a.put o.dst v).tmps[t]? = if o.dst = some t then some v else a.tmps[t]? := by
  intro t
  cases hx : o.dst with
  | none => simp [Act.put]
  | some d =>
   have h4 := (c3 d (hd.trans hx)).1
   have h5 : d < a.tmps.size := by rw [I.asz]; exact h4
   simp only [Act.put, Array.getElem?_setIfInBounds, Option.some.injEq, if_pos h5]
 have hlj : ∀ j, listed.getD j false = true -> j < ops.size /\ j ≠ i := by
  intro j hj
  refine ⟨?_, fun e => by rw [e, hun] at hj; cases hj⟩
  rw [← I.lsz]
  by_cases h : j < listed.size
  · exact h
  · simp [Nat.le_of_not_lt h] at hj
 have hvw : ∀ j, listed.getD j false = true -> vw (a.put o.dst v) (L.D j) = vw a (L.D j) := by
  intro j hj
  unfold vw
  refine List.map_congr_left (fun t ht => ?_)
  rw [hput]
  refine if_neg (fun e => ?_)
  have h6 := ((c3 t (hd.trans e)).2 j (hlj j hj).1 (hlj j hj).2.symm).1 ht
  have h7 := I.clo j hj i h6
  rw [hun] at h7; cases h7
 have hptr : ∀ j, listed.getD j false = true -> ∀ k, Ptr (a.put o.dst v) ops j k ↔ Ptr a ops j k := by
  intro j hj k
  unfold Ptr
  constructor
  · rintro ⟨d, h1, h2⟩
    refine ⟨d, h1, ?_⟩
    rw [hput, if_neg (fun e => ((c3 d (hd.trans e)).2 j (hlj j hj).1 (hlj j hj).2.symm).2 h1)] at h2
    exact h2
  · rintro ⟨d, h1, h2⟩
    refine ⟨d, h1, ?_⟩
    rw [hput, if_neg (fun e => ((c3 d (hd.trans e)).2 j (hlj j hj).1 (hlj j hj).2.symm).2 h1)]
    exact h2
 have hnew : i ∈ L.al -> ∀ k, Ptr (a.put o.dst v) ops i k -> w.heap.size <= k /\ k < w'.heap.size := by
  intro hal k ⟨d, h1, h2⟩
  obtain ⟨k', hv, h3, h4⟩ := G.ptr hal
  rw [hput, if_pos (hd.symm.trans h1), hv] at h2
  cases h2
  exact ⟨h3, h4⟩
 have hcase : ∀ j, (listed.setIfInBounds i true).getD j false = true -> j = i ∨ listed.getD j false = true := by
  intro j hj
  rw [lgd hil, Bool.or_eq_true, decide_eq_true_eq] at hj
  exact hj.imp Eq.symm id
 refine ⟨by simp [I.lsz], ?_, ?_, ?_, G.bag, ?_, ?_, ?_, ?_⟩
 · cases o.dst <;> simp [Act.put, I.asz]
 · cases o.dst <;> simp [Act.put, I.dfs]
 · intro t ht
   rw [hput, if_neg, I.old t ht]
   intro e
   unfold stays at ht
   rw [List.all_eq_true] at ht
   have := ht i (List.mem_range.2 hi)
   rw [hd, e] at this
   simp at this
 · intro j hj
   rcases hcase j hj with rfl | hj
   · have := G.fct
     unfold vw
     rw [show (L.D j).map (fun t => (a.put o.dst v).tmps[t]?) = (L.D j).map (fun t => if o.dst = some t then some v else a.tmps[t]?) from List.map_congr_left (fun t _ => hput t)]
     exact this
   · rw [hvw j hj]
     rcases G.stay with hb | hs
     · exact stay j _ _ _ hb (I.fct j hj)
     · refine hs j (hlj j hj).2 ?_ (I.fct j hj)
       intro x hx y hy hxy hxi hyj
       exact I.apt x hx y hy hxy (hpre x hxi) (hyj.elim (I.clo j hj y) (fun e => e ▸ hj))
 · intro j hj e he
   rw [lgd hil, Bool.or_eq_true]
   rcases hcase j hj with rfl | hj
   · exact .inr (hpre e he)
   · exact .inr (I.clo j hj e he)
 · intro j hjal hj
   rcases hcase j hj with rfl | hj
   · obtain ⟨k, hv, h3, h4⟩ := G.ptr hjal
     cases hx : o.dst with
     | none =>
      have := List.all_eq_true.1 hal j hjal
      rw [hd, hx] at this; cases this
     | some d => exact ⟨k, ⟨d, hd.trans hx, by rw [← hx, hput, if_pos hx, hv]⟩, h4⟩
   · obtain ⟨k, h1, h2⟩ := I.alo j hjal hj
     exact ⟨k, (hptr j hj k).2 h1, Nat.lt_of_lt_of_le h2 G.size⟩
 · intro x hx y hy hxy hlx0 hly0 k
   rcases hcase x hlx0 with rfl | hlx
   · rcases hcase y hly0 with e | hly
     · exact absurd e.symm hxy
     · intro h1 h2
       obtain ⟨k', h3, h4⟩ := I.alo y hy hly
       obtain ⟨d, e1, e2⟩ := (hptr y hly k).1 h2
       obtain ⟨d', e3, e4⟩ := h3
       rw [e1] at e3; cases e3
       rw [e2] at e4; cases e4
       have := (hnew hx k h1).1
       omega
   · rcases hcase y hly0 with rfl | hly
     · intro h1 h2
       obtain ⟨k', h3, h4⟩ := I.alo x hx hlx
       obtain ⟨d, e1, e2⟩ := (hptr x hlx k).1 h1
       obtain ⟨d', e3, e4⟩ := h3
       rw [e1] at e3; cases e3
       rw [e2] at e4; cases e4
       have := (hnew hy k h2).1
       omega
     · intro h1 h2
       exact I.apt x hx y hy hxy hlx hly k ((hptr x hlx k).1 h1) ((hptr y hly k).1 h2)
theorem ready_all (ok : L.ok md ops a0.tmps.size = true) {listed : Array Bool} (hs : listed.size = ops.size) (h : Region.ready md ops listed = []) : ∀ j, j < ops.size -> listed.getD j false = true := by
 intro j
 induction j using Nat.strongRecOn with
 | ind j ih =>
  intro hj
  cases hx : listed.getD j false with
  | true => rfl
  | false =>
   exfalso
   have hm : j ∈ Region.ready md ops listed := by
    rw [mem_ready]
    refine ⟨?_, ops[j], Array.getElem?_eq_getElem hj, fun e he hb => ?_⟩
    · have : j < listed.size := by rw [hs]; exact hj
      simp [this] at hx ⊢; exact hx
    · have h1 := (Plan.ok_spec ok hj).1 e.on ((aft_mem (Array.getElem?_eq_getElem hj)).2 ⟨e, he, hb, rfl⟩)
      exact ih e.on h1 (Nat.lt_trans h1 hj)
   rw [h] at hm; cases hm
theorem wpAny_inv (ok : L.ok md ops a0.tmps.size = true) (hal : L.al.all (fun i => (dstI ops i).isSome) = true) (stay : ∀ j v w w', Below w.heap.size w w' -> p j v w -> p j v w') (steps : Stps P ops Q L p B a0 0 ops.toList)
    (done : ∀ a w, a.tmps.size = a0.tmps.size -> a.defers = a0.defers -> (∀ t, stays ops t = true -> a.tmps[t]? = a0.tmps[t]?) -> B w -> (∀ j, j < ops.size -> p j (vw a (L.D j)) w) -> Q .normal a w) :
    ∀ (fuel : Nat) (listed : Array Bool) (a : Act) (w : World), Inv md ops L p B a0 listed a w -> (List.range ops.size).countP (fun i => !listed.getD i true) <= fuel -> wpAny P md ops Q fuel listed a w := by
 intro fuel
 induction fuel with
 | zero =>
  intro listed a w I hc
  have hall : ∀ j, j < ops.size -> listed.getD j true = true := by
   intro j hj
   have := List.countP_eq_zero.1 (Nat.le_zero.1 hc) j (List.mem_range.2 hj)
   simpa using this
  have hr : Region.ready md ops listed = [] := by
   rw [List.eq_nil_iff_forall_not_mem]
   intro j hj
   obtain ⟨h1, o, h2, _⟩ := mem_ready.1 hj
   rw [hall j (Array.getElem?_eq_some_iff.1 h2).1] at h1; cases h1
  exact ⟨hr, done a w I.asz I.dfs I.old I.bag (fun j hj => I.fct j (ready_all ok I.lsz hr j hj))⟩
 | succ fuel ih =>
  intro listed a w I hc
  refine ⟨fun hr => done a w I.asz I.dfs I.old I.bag (fun j hj => I.fct j (ready_all ok I.lsz hr j hj)), fun i hi => ?_⟩
  obtain ⟨hu, o, ho, hr⟩ := mem_ready.1 hi
  have hio : i < ops.size := (Array.getElem?_eq_some_iff.1 ho).1
  have hst := steps.get i o (by rw [Array.getElem?_toList]; exact ho)
  rw [Nat.zero_add] at hst
  have hpre : ∀ e ∈ L.pre i, listed.getD e false = true := by
   intro e he
   rcases (Plan.ok_spec ok hio).2.1 e he with h | ⟨k, hk, hek⟩
   · obtain ⟨x, h1, h2, rfl⟩ := (aft_mem ho).1 h; exact hr x h1 h2
   · obtain ⟨x, h1, h2, rfl⟩ := (aft_mem ho).1 hk; exact I.clo _ (hr x h1 h2) e hek
  refine wpOp_step ho (fun K hK => hst a w I.asz I.old I.bag (fun j hj => I.fct j (hpre j hj)) K (fun v w' G => hK _ _ (ih _ _ _ (I.step ok hal stay ho hu hr G) ?_)))
  have hil : i < listed.size := by rw [I.lsz]; exact hio
  have hun : listed[i] = false := by simpa [hil] using hu
  have := cnt_set (fun j => !listed.getD j true) (fun j => !(listed.setIfInBounds i true).getD j true) i (by simp [hil, hun]) (by simp [hil]) (fun j hj => by simp [Ne.symm hj]) ops.size
  rw [if_pos hio] at this
  omega
theorem lg0 (n j : Nat) : (Array.replicate n false).getD j false = false := by
 rw [Array.getD_eq_getD_getElem?, Array.getElem?_replicate]; split <;> rfl
theorem wp_region_inv {id : Nat} {l : List Oper} {w : World} (L : Plan) (p : Nat -> List (Option Value) -> World -> Prop) (B : World -> Prop) (hm : P.follows .mixedOrders = true) (ok : L.ok .any l.toArray a0.tmps.size = true) (hal : L.al.all (fun i => (dstI l.toArray i).isSome) = true)
    (hB : B w.drew) (stay : ∀ j v w w', Below w.heap.size w w' -> p j v w -> p j v w')
    (done : ∀ a w, a.tmps.size = a0.tmps.size -> a.defers = a0.defers -> (∀ t, stays l.toArray t = true -> a.tmps[t]? = a0.tmps[t]?) -> B w -> (∀ j, j < l.length -> p j (vw a (L.D j)) w) -> Q .normal a w)
    (steps : Stps P l.toArray Q L p B a0 0 l) :
    (Code.region id l.toArray true).wp P Q a0 w := by
 refine wp_region_any hm (wpAny_inv ok hal stay steps (fun a w h1 h2 h3 h4 h5 => done a w h1 h2 h3 h4 (fun j hj => h5 j (by simpa using hj))) _ _ _ _ ⟨by simp, rfl, rfl, fun _ _ => rfl, hB, ?_, ?_, ?_, ?_⟩ ?_)
 · intro j hj; rw [lg0] at hj; cases hj
 · intro j hj; rw [lg0] at hj; cases hj
 · intro j _ hj; rw [lg0] at hj; cases hj
 · intro j _ i _ _ hj; rw [lg0] at hj; cases hj
 · exact Nat.le_trans List.countP_le_length (by simp)
end
theorem Slot3.set3 {w : World} {k : Nat} {x y z : Value} (h : Slot3 w k x y z) (u v t : Value) : Slot3 (((w.setCell ⟨k, 0, none⟩ u).setCell ⟨k, 1, none⟩ v).setCell ⟨k, 2, none⟩ t) k u v t := (h.set2 u v).set1 t
theorem wanted_pos {ops : Array Oper} {a : Act} {o : Oper} {g : Nat} {b : Bool} {d : Nat} (hg : o.guard = some (g, b)) (hd : dstI ops g = some d) (ht : a.tmps[d]? = some (.bool b)) : Region.wanted o (yielded ops a.tmps) = true := by
 unfold Region.wanted
 rw [hg]
 show (yielded ops a.tmps g == some b) = true
 unfold yielded
 rw [show (ops[g]?).bind (·.dst) = some d from hd]
 show ((match a.tmps[d]? with | some (.bool b) => some b | _ => none) == some b) = true
 rw [ht]
 cases b <;> rfl
theorem wanted_neg {ops : Array Oper} {a : Act} {o : Oper} {g : Nat} {b : Bool} {d : Nat} {v : Value} (hg : o.guard = some (g, b)) (hd : dstI ops g = some d) (ht : a.tmps[d]? = some v) (hv : v ≠ .bool b) : Region.wanted o (yielded ops a.tmps) = false := by
 unfold Region.wanted
 rw [hg]
 show (yielded ops a.tmps g == some b) = false
 unfold yielded
 rw [show (ops[g]?).bind (·.dst) = some d from hd]
 show ((match a.tmps[d]? with | some (.bool b) => some b | _ => none) == some b) = false
 rw [ht]
 cases v with
 | bool x => cases x <;> cases b <;> first | rfl | exact absurd rfl hv
 | _ => rfl
theorem act_eq {ac : Act} {n : Nat} (hs : ac.tmps.size = n) (f : Nat -> Value) (hf : ∀ i, (ac.tmps[i]?).getD undef = f i) : ac = ⟨((List.range n).map f).toArray, ac.defers⟩ := by
 obtain ⟨t, d⟩ := ac
 congr 1
 apply Array.ext
 · simpa using hs
 · intro i h1 h2
   have := hf i
   simp only [Array.getElem?_eq_getElem h1, Option.getD_some] at this
   rw [this]; simp
def blk : Value -> Option Nat
 | .pointer (some a) => some a.block
 | .slice (some a) _ _ => some a.block
 | _ => none
def Ptr2 (a : Act) (ops : Array Oper) (i k : Nat) : Prop := ∃ d v, dstI ops i = some d /\ a.tmps[d]? = some v /\ blk v = some k
structure Inv2 (md : Region.Mode) (ops : Array Oper) (L : Plan) (p : Nat -> List (Option Value) -> World -> Prop) (B : World -> Prop) (a0 : Act) (listed : Array Bool) (a : Act) (w : World) : Prop where
 lsz : listed.size = ops.size
 asz : a.tmps.size = a0.tmps.size
 dfs : a.defers = a0.defers
 old : ∀ t, stays ops t = true -> a.tmps[t]? = a0.tmps[t]?
 bag : B w
 fct : ∀ j, listed.getD j false = true -> p j (vw a (L.D j)) w
 clo : ∀ j, listed.getD j false = true -> ∀ i ∈ L.pre j, listed.getD i false = true
 alo : ∀ i ∈ L.al, listed.getD i false = true -> ∃ k, Ptr2 a ops i k /\ k < w.heap.size
 apt : ∀ i ∈ L.al, ∀ j ∈ L.al, i ≠ j -> listed.getD i false = true -> listed.getD j false = true -> ∀ k, Ptr2 a ops i k -> ¬ Ptr2 a ops j k
structure Laid2 (ops : Array Oper) (L : Plan) (p : Nat -> List (Option Value) -> World -> Prop) (B : World -> Prop) (i : Nat) (o : Oper) (a : Act) (w : World) (v : Value) (w' : World) : Prop where
 bag : B w'
 fct : p i ((L.D i).map (fun t => if o.dst = some t then some v else a.tmps[t]?)) w'
 size : w.heap.size <= w'.heap.size
 stay : Below w.heap.size w w' ∨ ∀ j, j ≠ i -> (∀ x ∈ L.al, ∀ y ∈ L.al, x ≠ y -> x ∈ L.pre i -> (y ∈ L.pre j ∨ y = j) -> ∀ k, Ptr2 a ops x k -> ¬ Ptr2 a ops y k) -> p j (vw a (L.D j)) w -> p j (vw a (L.D j)) w'
 ptr : i ∈ L.al -> ∃ k, blk v = some k /\ w.heap.size <= k /\ k < w'.heap.size
def Stp2 (P : Program) (ops : Array Oper) (Q : Exit -> Act -> World -> Prop) (L : Plan) (p : Nat -> List (Option Value) -> World -> Prop) (B : World -> Prop) (a0 : Act) (i : Nat) (o : Oper) : Prop :=
 ∀ a w, a.tmps.size = a0.tmps.size -> (∀ t, stays ops t = true -> a.tmps[t]? = a0.tmps[t]?) -> B w -> (∀ j ∈ L.pre i, p j (vw a (L.D j)) w) ->
  ∀ K : Act -> World -> Prop, Shut (∀ v w', Laid2 ops L p B i o a w v w' -> K (a.put o.dst v) w') -> if Region.wanted o (yielded ops a.tmps) = true then Oper.wp P o a w K Q else K (a.put o.dst undef) w
inductive Stps2 (P : Program) (ops : Array Oper) (Q : Exit -> Act -> World -> Prop) (L : Plan) (p : Nat -> List (Option Value) -> World -> Prop) (B : World -> Prop) (a0 : Act) : Nat -> List Oper -> Prop
 | nil (i : Nat) : Stps2 P ops Q L p B a0 i []
 | cons {i : Nat} {o : Oper} {l : List Oper} : Stp2 P ops Q L p B a0 i o -> Stps2 P ops Q L p B a0 (i + 1) l -> Stps2 P ops Q L p B a0 i (o :: l)
section
variable {P : Program} {md : Region.Mode} {ops : Array Oper} {Q : Exit -> Act -> World -> Prop} {L : Plan} {p : Nat -> List (Option Value) -> World -> Prop} {B : World -> Prop} {a0 : Act}
theorem Stps2.get : ∀ {l : List Oper} {i : Nat}, Stps2 P ops Q L p B a0 i l -> ∀ k o, l[k]? = some o -> Stp2 P ops Q L p B a0 (i + k) o := by
 intro l
 induction l with
 | nil => intro i _ k o h; simp at h
 | cons x l ih =>
  intro i h k o hk
  cases h with
  | cons h1 h2 =>
   cases k with
   | zero => simp at hk; subst hk; exact h1
   | succ k => have := ih h2 k o (by simpa using hk); rwa [Nat.add_assoc, Nat.add_comm 1 k] at this
theorem Inv2.step (ok : L.ok md ops a0.tmps.size = true) (hal : L.al.all (fun i => (dstI ops i).isSome) = true) (stay : ∀ j v w w', Below w.heap.size w w' -> p j v w -> p j v w') {listed : Array Bool} {a : Act} {w : World} (I : Inv2 md ops L p B a0 listed a w) {i : Nat} {o : Oper} (ho : ops[i]? = some o)
    (hu : listed.getD i true = false) (hr : ∀ e ∈ o.after, Region.binds md e = true -> listed.getD e.on false = true) {v : Value} {w' : World} (G : Laid2 ops L p B i o a w v w') :
    Inv2 md ops L p B a0 (listed.setIfInBounds i true) (a.put o.dst v) w' := by
 have hi : i < ops.size := (Array.getElem?_eq_some_iff.1 ho).1
 have hil : i < listed.size := by rw [I.lsz]; exact hi
 have hun := (lgt hu).2
 obtain ⟨c1, c2, c3⟩ := Plan.ok_spec ok hi
 have hd : dstI ops i = o.dst := by unfold dstI; rw [ho]; rfl
 have hpre : ∀ e ∈ L.pre i, listed.getD e false = true := by
  intro e he
  rcases c2 e he with h | ⟨k, hk, hek⟩
  · obtain ⟨x, h1, h2, rfl⟩ := (aft_mem ho).1 h; exact hr x h1 h2
  · obtain ⟨x, h1, h2, rfl⟩ := (aft_mem ho).1 hk; exact I.clo _ (hr x h1 h2) e hek
 have hput : ∀ t, (a.put o.dst v).tmps[t]? = if o.dst = some t then some v else a.tmps[t]? := by
  intro t
  cases hx : o.dst with
  | none => simp [Act.put]
  | some d =>
   have h4 := (c3 d (hd.trans hx)).1
   have h5 : d < a.tmps.size := by rw [I.asz]; exact h4
   simp only [Act.put, Array.getElem?_setIfInBounds, Option.some.injEq, if_pos h5]
 have hlj : ∀ j, listed.getD j false = true -> j < ops.size /\ j ≠ i := by
  intro j hj
  refine ⟨?_, fun e => by rw [e, hun] at hj; cases hj⟩
  rw [← I.lsz]
  by_cases h : j < listed.size
  · exact h
  · simp [Nat.le_of_not_lt h] at hj
 have hvw : ∀ j, listed.getD j false = true -> vw (a.put o.dst v) (L.D j) = vw a (L.D j) := by
  intro j hj
  unfold vw
  refine List.map_congr_left (fun t ht => ?_)
  rw [hput]
  refine if_neg (fun e => ?_)
  have h6 := ((c3 t (hd.trans e)).2 j (hlj j hj).1 (hlj j hj).2.symm).1 ht
  have h7 := I.clo j hj i h6
  rw [hun] at h7; cases h7
 have hptr : ∀ j, listed.getD j false = true -> ∀ k, Ptr2 (a.put o.dst v) ops j k ↔ Ptr2 a ops j k := by
  intro j hj k
  unfold Ptr2
  constructor
  · rintro ⟨d, u, h1, h2, h3⟩
    refine ⟨d, u, h1, ?_, h3⟩
    rw [hput, if_neg (fun e => ((c3 d (hd.trans e)).2 j (hlj j hj).1 (hlj j hj).2.symm).2 h1)] at h2
    exact h2
  · rintro ⟨d, u, h1, h2, h3⟩
    refine ⟨d, u, h1, ?_, h3⟩
    rw [hput, if_neg (fun e => ((c3 d (hd.trans e)).2 j (hlj j hj).1 (hlj j hj).2.symm).2 h1)]
    exact h2
 have hnew : i ∈ L.al -> ∀ k, Ptr2 (a.put o.dst v) ops i k -> w.heap.size <= k /\ k < w'.heap.size := by
  intro hal k ⟨d, u, h1, h2, h5⟩
  obtain ⟨k', hv, h3, h4⟩ := G.ptr hal
  rw [hput, if_pos (hd.symm.trans h1)] at h2
  cases h2
  rw [hv] at h5
  cases h5
  exact ⟨h3, h4⟩
 have hcase : ∀ j, (listed.setIfInBounds i true).getD j false = true -> j = i ∨ listed.getD j false = true := by
  intro j hj
  rw [lgd hil, Bool.or_eq_true, decide_eq_true_eq] at hj
  exact hj.imp Eq.symm id
 refine ⟨by simp [I.lsz], ?_, ?_, ?_, G.bag, ?_, ?_, ?_, ?_⟩
 · cases o.dst <;> simp [Act.put, I.asz]
 · cases o.dst <;> simp [Act.put, I.dfs]
 · intro t ht
   rw [hput, if_neg, I.old t ht]
   intro e
   unfold stays at ht
   rw [List.all_eq_true] at ht
   have := ht i (List.mem_range.2 hi)
   rw [hd, e] at this
   simp at this
 · intro j hj
   rcases hcase j hj with rfl | hj
   · have := G.fct
     unfold vw
     rw [show (L.D j).map (fun t => (a.put o.dst v).tmps[t]?) = (L.D j).map (fun t => if o.dst = some t then some v else a.tmps[t]?) from List.map_congr_left (fun t _ => hput t)]
     exact this
   · rw [hvw j hj]
     rcases G.stay with hb | hs
     · exact stay j _ _ _ hb (I.fct j hj)
     · refine hs j (hlj j hj).2 ?_ (I.fct j hj)
       intro x hx y hy hxy hxi hyj
       exact I.apt x hx y hy hxy (hpre x hxi) (hyj.elim (I.clo j hj y) (fun e => e ▸ hj))
 · intro j hj e he
   rw [lgd hil, Bool.or_eq_true]
   rcases hcase j hj with rfl | hj
   · exact .inr (hpre e he)
   · exact .inr (I.clo j hj e he)
 · intro j hjal hj
   rcases hcase j hj with rfl | hj
   · obtain ⟨k, hv, h3, h4⟩ := G.ptr hjal
     cases hx : o.dst with
     | none =>
      have := List.all_eq_true.1 hal j hjal
      rw [hd, hx] at this; cases this
     | some d => exact ⟨k, ⟨d, v, hd.trans hx, by rw [← hx, hput, if_pos hx], hv⟩, h4⟩
   · obtain ⟨k, h1, h2⟩ := I.alo j hjal hj
     exact ⟨k, (hptr j hj k).2 h1, Nat.lt_of_lt_of_le h2 G.size⟩
 · intro x hx y hy hxy hlx0 hly0 k
   rcases hcase x hlx0 with rfl | hlx
   · rcases hcase y hly0 with e | hly
     · exact absurd e.symm hxy
     · intro h1 h2
       obtain ⟨k', h3, h4⟩ := I.alo y hy hly
       obtain ⟨d, x1, e1, e2, e5⟩ := (hptr y hly k).1 h2
       obtain ⟨d', x2, e3, e4, e6⟩ := h3
       rw [e1] at e3; cases e3
       rw [e2] at e4; cases e4
       rw [e5] at e6; cases e6
       have := (hnew hx k h1).1
       omega
   · rcases hcase y hly0 with rfl | hly
     · intro h1 h2
       obtain ⟨k', h3, h4⟩ := I.alo x hx hlx
       obtain ⟨d, x1, e1, e2, e5⟩ := (hptr x hlx k).1 h1
       obtain ⟨d', x2, e3, e4, e6⟩ := h3
       rw [e1] at e3; cases e3
       rw [e2] at e4; cases e4
       rw [e5] at e6; cases e6
       have := (hnew hy k h2).1
       omega
     · intro h1 h2
       exact I.apt x hx y hy hxy hlx hly k ((hptr x hlx k).1 h1) ((hptr y hly k).1 h2)
theorem wpAny_inv2 (ok : L.ok md ops a0.tmps.size = true) (hal : L.al.all (fun i => (dstI ops i).isSome) = true) (stay : ∀ j v w w', Below w.heap.size w w' -> p j v w -> p j v w') (steps : Stps2 P ops Q L p B a0 0 ops.toList)
    (done : ∀ a w, a.tmps.size = a0.tmps.size -> a.defers = a0.defers -> (∀ t, stays ops t = true -> a.tmps[t]? = a0.tmps[t]?) -> B w -> (∀ j, j < ops.size -> p j (vw a (L.D j)) w) -> Q .normal a w) :
    ∀ (fuel : Nat) (listed : Array Bool) (a : Act) (w : World), Inv2 md ops L p B a0 listed a w -> (List.range ops.size).countP (fun i => !listed.getD i true) <= fuel -> wpAny P md ops Q fuel listed a w := by
 intro fuel
 induction fuel with
 | zero =>
  intro listed a w I hc
  have hall : ∀ j, j < ops.size -> listed.getD j true = true := by
   intro j hj
   have := List.countP_eq_zero.1 (Nat.le_zero.1 hc) j (List.mem_range.2 hj)
   simpa using this
  have hr : Region.ready md ops listed = [] := by
   rw [List.eq_nil_iff_forall_not_mem]
   intro j hj
   obtain ⟨h1, o, h2, _⟩ := mem_ready.1 hj
   rw [hall j (Array.getElem?_eq_some_iff.1 h2).1] at h1; cases h1
  exact ⟨hr, done a w I.asz I.dfs I.old I.bag (fun j hj => I.fct j (ready_all ok I.lsz hr j hj))⟩
 | succ fuel ih =>
  intro listed a w I hc
  refine ⟨fun hr => done a w I.asz I.dfs I.old I.bag (fun j hj => I.fct j (ready_all ok I.lsz hr j hj)), fun i hi => ?_⟩
  obtain ⟨hu, o, ho, hr⟩ := mem_ready.1 hi
  have hio : i < ops.size := (Array.getElem?_eq_some_iff.1 ho).1
  have hst := steps.get i o (by rw [Array.getElem?_toList]; exact ho)
  rw [Nat.zero_add] at hst
  have hpre : ∀ e ∈ L.pre i, listed.getD e false = true := by
   intro e he
   rcases (Plan.ok_spec ok hio).2.1 e he with h | ⟨k, hk, hek⟩
   · obtain ⟨x, h1, h2, rfl⟩ := (aft_mem ho).1 h; exact hr x h1 h2
   · obtain ⟨x, h1, h2, rfl⟩ := (aft_mem ho).1 hk; exact I.clo _ (hr x h1 h2) e hek
  refine wpOp_step ho (fun K hK => hst a w I.asz I.old I.bag (fun j hj => I.fct j (hpre j hj)) K (fun v w' G => hK _ _ (ih _ _ _ (I.step ok hal stay ho hu hr G) ?_)))
  have hil : i < listed.size := by rw [I.lsz]; exact hio
  have hun : listed[i] = false := by simpa [hil] using hu
  have := cnt_set (fun j => !listed.getD j true) (fun j => !(listed.setIfInBounds i true).getD j true) i (by simp [hil, hun]) (by simp [hil]) (fun j hj => by simp [Ne.symm hj]) ops.size
  rw [if_pos hio] at this
  omega
theorem wp_region_inv2 {id : Nat} {l : List Oper} {w : World} (L : Plan) (p : Nat -> List (Option Value) -> World -> Prop) (B : World -> Prop) (hm : P.follows .mixedOrders = true) (ok : L.ok .any l.toArray a0.tmps.size = true) (hal : L.al.all (fun i => (dstI l.toArray i).isSome) = true)
    (hB : B w.drew) (stay : ∀ j v w w', Below w.heap.size w w' -> p j v w -> p j v w')
    (done : ∀ a w, a.tmps.size = a0.tmps.size -> a.defers = a0.defers -> (∀ t, stays l.toArray t = true -> a.tmps[t]? = a0.tmps[t]?) -> B w -> (∀ j, j < l.length -> p j (vw a (L.D j)) w) -> Q .normal a w)
    (steps : Stps2 P l.toArray Q L p B a0 0 l) :
    (Code.region id l.toArray true).wp P Q a0 w := by
 refine wp_region_any hm (wpAny_inv2 ok hal stay steps (fun a w h1 h2 h3 h4 h5 => done a w h1 h2 h3 h4 (fun j hj => h5 j (by simpa using hj))) _ _ _ _ ⟨by simp, rfl, rfl, fun _ _ => rfl, hB, ?_, ?_, ?_, ?_⟩ ?_)
 · intro j hj; rw [lg0] at hj; cases hj
 · intro j hj; rw [lg0] at hj; cases hj
 · intro j _ hj; rw [lg0] at hj; cases hj
 · intro j _ i _ _ hj; rw [lg0] at hj; cases hj
 · exact Nat.le_trans List.countP_le_length (by simp)
end
def TailWp (P : Program) (ops : Array Oper) (Q : Exit -> Act -> World -> Prop) : List Oper -> Act -> World -> Prop
 | [], a, w => Q .normal a w
 | o :: l, a, w => ∀ K : Act -> World -> Prop, Shut (∀ a w, TailWp P ops Q l a w -> K a w) -> if Region.wanted o (yielded ops a.tmps) = true then Oper.wp P o a w K Q else K (a.put o.dst undef) w
def Plan.tail (L : Plan) (md : Region.Mode) (ops : Array Oper) (n0 : Nat) : Bool :=
 decide (n0 < ops.size) && ((List.range n0).all fun e => (L.pre n0).contains e) && ((List.range ops.size).all fun j => decide (j <= n0) || (aft md ops j).contains (j - 1))
section
variable {P : Program} {md : Region.Mode} {ops : Array Oper} {Q : Exit -> Act -> World -> Prop} {L : Plan} {p : Nat -> List (Option Value) -> World -> Prop} {B : World -> Prop} {a0 : Act}
theorem Plan.tail_spec {n0 : Nat} (h : L.tail md ops n0 = true) : n0 < ops.size /\ (∀ e, e < n0 -> e ∈ L.pre n0) /\ ∀ j, j < ops.size -> n0 < j -> j - 1 ∈ aft md ops j := by
 unfold Plan.tail at h
 simp only [Bool.and_eq_true, decide_eq_true_eq, List.all_eq_true, List.mem_range, Bool.or_eq_true, List.contains_iff_mem] at h
 refine ⟨h.1.1, h.1.2, fun j hj hn => ?_⟩
 rcases h.2 j hj with h1 | h1
 · omega
 · exact h1
theorem lgf {listed : Array Bool} {j : Nat} (hj : j < listed.size) (h : listed.getD j false = false) : listed.getD j true = false := by
 simp [hj] at h ⊢; exact h
theorem wpAny_seq (ok : L.ok md ops a0.tmps.size = true) {n0 : Nat} (tok : L.tail md ops n0 = true) : ∀ (l : List Oper) (i fuel : Nat) (listed : Array Bool) (a : Act) (w : World), n0 < i -> ops.toList.drop i = l -> listed.size = ops.size ->
    (∀ j, j < ops.size -> listed.getD j false = decide (j < i)) -> l.length <= fuel -> TailWp P ops Q l a w -> wpAny P md ops Q fuel listed a w := by
 intro l
 induction l with
 | nil =>
  intro i fuel listed a w hn hd hs hl hf h
  have hi : ops.size <= i := by have := congrArg List.length hd; simp at this; omega
  have hr : Region.ready md ops listed = [] := by
   rw [List.eq_nil_iff_forall_not_mem]
   intro j hj
   obtain ⟨h1, o, h2, _⟩ := mem_ready.1 hj
   have hjo := (Array.getElem?_eq_some_iff.1 h2).1
   have h3 := hl j hjo
   have := (lgt h1).2
   rw [h3, decide_eq_false_iff_not] at this
   omega
  cases fuel with
  | zero => exact ⟨hr, h⟩
  | succ f => exact ⟨fun _ => h, fun j hj => by rw [hr] at hj; cases hj⟩
 | cons o l ih =>
  intro i fuel listed a w hn hd hs hl hf h
  have hi : i < ops.size := by
   rcases Nat.lt_or_ge i ops.size with h1 | h1
   · exact h1
   · rw [List.drop_eq_nil_of_le (by simpa using h1)] at hd; cases hd
  have ho : ops[i]? = some o := by
   have := congrArg List.head? hd
   rw [List.head?_drop] at this
   rw [← Array.getElem?_toList]; exact this
  cases fuel with
  | zero => simp at hf
  | succ f =>
   have hii : listed.getD i false = false := by rw [hl i hi, decide_eq_false_iff_not]; omega
   have hmem : i ∈ Region.ready md ops listed := by
    rw [mem_ready]
    refine ⟨lgf (by rw [hs]; exact hi) hii, o, ho, fun e he hb => ?_⟩
    have := (Plan.ok_spec ok hi).1 e.on ((aft_mem ho).2 ⟨e, he, hb, rfl⟩)
    rw [hl e.on (by omega), decide_eq_true_iff]; exact this
   refine ⟨fun hr => (by rw [hr] at hmem; cases hmem), fun j hj => ?_⟩
   obtain ⟨hu, o', ho', hr⟩ := mem_ready.1 hj
   have hjo : j < ops.size := (Array.getElem?_eq_some_iff.1 ho').1
   have hjn := (lgt hu).2
   rw [hl j hjo, decide_eq_false_iff_not] at hjn
   have hij : j = i := by
    rcases Nat.lt_or_ge i j with h1 | h1
    · exfalso
      have h2 := (Plan.tail_spec tok).2.2 j hjo (by omega)
      obtain ⟨x, h3, h4, h5⟩ := (aft_mem ho').1 h2
      have h6 := hr x h3 h4
      rw [h5, hl (j - 1) (by omega), decide_eq_true_iff] at h6
      omega
    · omega
   subst hij
   rw [ho] at ho'
   cases ho'
   refine wpOp_step ho (fun K hK => h K (fun a' w' ht => hK a' w' (ih (j + 1) f _ a' w' (by omega) ?_ (by simp [hs]) ?_ (by simpa using hf) ht)))
   · rw [← List.tail_drop, hd]; rfl
   · intro k hk
     rw [lgd (by rw [hs]; exact hjo), hl k hk]
     by_cases h1 : j = k
     · subst h1; simp
     · simp only [h1, decide_false, Bool.false_or]
       congr 1
       apply propext; omega
theorem wpAny_inv3 (ok : L.ok md ops a0.tmps.size = true) {n0 : Nat} (tok : L.tail md ops n0 = true) (hal : L.al.all (fun i => (dstI ops i).isSome) = true) (stay : ∀ j v w w', Below w.heap.size w w' -> p j v w -> p j v w') (steps : Stps2 P ops Q L p B a0 0 (ops.toList.take n0))
    (done : ∀ a w, a.tmps.size = a0.tmps.size -> a.defers = a0.defers -> (∀ t, stays ops t = true -> a.tmps[t]? = a0.tmps[t]?) -> B w -> (∀ j, j < n0 -> p j (vw a (L.D j)) w) -> TailWp P ops Q (ops.toList.drop n0) a w) :
    ∀ (fuel : Nat) (listed : Array Bool) (a : Act) (w : World), Inv2 md ops L p B a0 listed a w -> (∀ j, n0 <= j -> listed.getD j false = false) -> (List.range ops.size).countP (fun i => !listed.getD i true) <= fuel -> wpAny P md ops Q fuel listed a w := by
 obtain ⟨t1, t2, t3⟩ := Plan.tail_spec tok
 intro fuel
 induction fuel with
 | zero =>
  intro listed a w I hno hc
  exfalso
  have h1 := lgf (by rw [I.lsz]; exact t1) (hno n0 (Nat.le_refl _))
  have := List.countP_eq_zero.1 (Nat.le_zero.1 hc) n0 (List.mem_range.2 t1)
  simp [h1] at this
 | succ fuel ih =>
  intro listed a w I hno hc
  refine ⟨fun hr => ?_, fun i hi => ?_⟩
  · exfalso
    have h1 := ready_all ok I.lsz hr n0 t1
    rw [hno n0 (Nat.le_refl _)] at h1; cases h1
  obtain ⟨hu, o, ho, hr⟩ := mem_ready.1 hi
  have hio : i < ops.size := (Array.getElem?_eq_some_iff.1 ho).1
  have hil : i < listed.size := by rw [I.lsz]; exact hio
  have hun : listed[i] = false := by simpa [hil] using hu
  have hcnt := cnt_set (fun j => !listed.getD j true) (fun j => !(listed.setIfInBounds i true).getD j true) i (by simp [hil, hun]) (by simp [hil]) (fun j hj => by simp [Ne.symm hj]) ops.size
  rw [if_pos hio] at hcnt
  have hpre : ∀ e ∈ L.pre i, listed.getD e false = true := by
   intro e he
   rcases (Plan.ok_spec ok hio).2.1 e he with h | ⟨k, hk, hek⟩
   · obtain ⟨x, h1, h2, rfl⟩ := (aft_mem ho).1 h; exact hr x h1 h2
   · obtain ⟨x, h1, h2, rfl⟩ := (aft_mem ho).1 hk; exact I.clo _ (hr x h1 h2) e hek
  rcases Nat.lt_or_ge i n0 with hin | hin
  · have hst := steps.get i o (by rw [List.getElem?_take, if_pos hin, Array.getElem?_toList]; exact ho)
    rw [Nat.zero_add] at hst
    refine wpOp_step ho (fun K hK => hst a w I.asz I.old I.bag (fun j hj => I.fct j (hpre j hj)) K (fun v w' G => hK _ _ (ih _ _ _ (I.step ok hal stay ho hu hr G) ?_ ?_)))
    · intro j hj
      rw [lgd hil, hno j hj]
      simp; omega
    · omega
  · have hin : i = n0 := by
      rcases Nat.lt_or_ge n0 i with h1 | h1
      · exfalso
        obtain ⟨x, h3, h4, h5⟩ := (aft_mem ho).1 (t3 i hio h1)
        have h6 := hr x h3 h4
        rw [h5, hno (i - 1) (by omega)] at h6; cases h6
      · omega
    subst hin
    have hall : ∀ j, j < i -> listed.getD j false = true := fun j hj => hpre j (t2 j hj)
    have hdone := done a w I.asz I.dfs I.old I.bag (fun j hj => I.fct j (hall j hj))
    have hdr : ops.toList.drop i = o :: ops.toList.drop (i + 1) := by
     rw [List.drop_eq_getElem_cons (by simpa using hio)]
     congr 1
     have := Array.getElem?_eq_some_iff.1 ho
     obtain ⟨_, h2⟩ := this
     simpa using h2
    rw [hdr] at hdone
    refine wpOp_step ho (fun K hK => hdone K (fun a' w' ht => hK a' w' (wpAny_seq ok tok _ (i + 1) fuel _ a' w' (by omega) rfl (by rw [Array.size_setIfInBounds]; exact I.lsz) ?_ ?_ ht)))
    · intro k hk
      rw [lgd hil]
      rcases Nat.lt_trichotomy k i with h1 | h1 | h1
      · rw [hall k h1]; simp; omega
      · subst h1; simp
      · rw [hno k (by omega)]; simp; omega
    · have hge : ops.size - (i + 1) <= (List.range ops.size).countP (fun j => !(listed.setIfInBounds i true).getD j true) := by
        have h1 : (List.range ops.size).countP (fun j => decide (i + 1 <= j)) <= (List.range ops.size).countP (fun j => !(listed.setIfInBounds i true).getD j true) := by
         refine List.countP_mono_left (fun j hj h => ?_)
         have hj' := List.mem_range.1 hj
         have h2 : i < j := by simp at h; omega
         have h3 := lgf (by rw [I.lsz]; exact hj') (hno j (by omega))
         have h4 : (listed.setIfInBounds i true).getD j true = false := by
          have : i ≠ j := by omega
          simp [this] at h3 ⊢; exact h3
         simp [h4]
        refine Nat.le_trans ?_ h1
        have h5 : ∀ n, n - (i + 1) <= (List.range n).countP (fun j => decide (i + 1 <= j)) := by
         intro n
         induction n with
         | zero => simp
         | succ n ihn =>
          rw [List.range_succ, List.countP_append]
          by_cases h6 : i + 1 <= n
          · simp [h6]; omega
          · simp [h6]; omega
        exact h5 _
      have : (ops.toList.drop (i + 1)).length = ops.size - (i + 1) := by simp
      omega
theorem TailWp.step {l : List Oper} {i : Nat} {o : Oper} {a : Act} {w : World} (h : l[i]? = some o)
    (hk : ∀ K : Act -> World -> Prop, Shut (∀ a w, TailWp P ops Q (l.drop (i + 1)) a w -> K a w) -> if Region.wanted o (yielded ops a.tmps) = true then Oper.wp P o a w K Q else K (a.put o.dst undef) w) : TailWp P ops Q (l.drop i) a w := by
 obtain ⟨hi, he⟩ := List.getElem?_eq_some_iff.1 h
 rw [List.drop_eq_getElem_cons hi, he]
 exact hk
theorem TailWp.end {l : List Oper} {i : Nat} {a : Act} {w : World} (h : l.length = i) (hk : Q .normal a w) : TailWp P ops Q (l.drop i) a w := by
 rw [List.drop_eq_nil_of_le (by omega)]
 exact hk
theorem wp_region_inv3 {id : Nat} {l : List Oper} {w : World} (L : Plan) (n0 : Nat) (p : Nat -> List (Option Value) -> World -> Prop) (B : World -> Prop) (hm : P.follows .mixedOrders = true) (ok : L.ok .any l.toArray a0.tmps.size = true) (tok : L.tail .any l.toArray n0 = true) (hal : L.al.all (fun i => (dstI l.toArray i).isSome) = true)
    (hB : B w.drew) (stay : ∀ j v w w', Below w.heap.size w w' -> p j v w -> p j v w')
    (done : ∀ a w, a.tmps.size = a0.tmps.size -> a.defers = a0.defers -> (∀ t, stays l.toArray t = true -> a.tmps[t]? = a0.tmps[t]?) -> B w -> (∀ j, j < n0 -> p j (vw a (L.D j)) w) -> TailWp P l.toArray Q (l.drop n0) a w)
    (steps : Stps2 P l.toArray Q L p B a0 0 (l.take n0)) :
    (Code.region id l.toArray true).wp P Q a0 w := by
 refine wp_region_any hm (wpAny_inv3 ok tok hal stay steps done _ _ _ _ ⟨by simp, rfl, rfl, fun _ _ => rfl, hB, ?_, ?_, ?_, ?_⟩ (fun j _ => lg0 _ _) ?_)
 · intro j hj; rw [lg0] at hj; cases hj
 · intro j hj; rw [lg0] at hj; cases hj
 · intro j _ hj; rw [lg0] at hj; cases hj
 · intro j _ i _ _ hj; rw [lg0] at hj; cases hj
 · exact Nat.le_trans List.countP_le_length (by simp)
end
abbrev upd (f : Nat -> Bool) (i : Nat) : Nat -> Bool := fun j => decide (i = j) || f j
theorem upd_set {listed : Array Bool} {i : Nat} (hi : i < listed.size) : upd (fun j => listed.getD j false) i = (fun j => (listed.setIfInBounds i true).getD j false) :=
 funext fun _ => (lgd hi).symm
structure Inv4 (md : Region.Mode) (ops : Array Oper) (L : Plan) (p : Nat -> List (Option Value) -> World -> Prop) (B : (Nat -> Bool) -> World -> Prop) (a0 : Act) (listed : Array Bool) (a : Act) (w : World) : Prop where
 lsz : listed.size = ops.size
 asz : a.tmps.size = a0.tmps.size
 dfs : a.defers = a0.defers
 old : ∀ t, stays ops t = true -> a.tmps[t]? = a0.tmps[t]?
 bag : B (fun j => listed.getD j false) w
 fct : ∀ j, listed.getD j false = true -> p j (vw a (L.D j)) w
 clo : ∀ j, listed.getD j false = true -> ∀ i ∈ L.pre j, listed.getD i false = true
 alo : ∀ i ∈ L.al, listed.getD i false = true -> ∃ k, Ptr2 a ops i k /\ k < w.heap.size
 apt : ∀ i ∈ L.al, ∀ j ∈ L.al, i ≠ j -> listed.getD i false = true -> listed.getD j false = true -> ∀ k, Ptr2 a ops i k -> ¬ Ptr2 a ops j k
structure Laid4 (ops : Array Oper) (L : Plan) (p : Nat -> List (Option Value) -> World -> Prop) (B : (Nat -> Bool) -> World -> Prop) (f : Nat -> Bool) (i : Nat) (o : Oper) (a : Act) (w : World) (v : Value) (w' : World) : Prop where
 bag : B (upd f i) w'
 fct : p i ((L.D i).map (fun t => if o.dst = some t then some v else a.tmps[t]?)) w'
 size : w.heap.size <= w'.heap.size
 stay : Below w.heap.size w w' ∨ ∀ j, j ≠ i -> (∀ x ∈ L.al, ∀ y ∈ L.al, x ≠ y -> x ∈ L.pre i -> (y ∈ L.pre j ∨ y = j) -> ∀ k, Ptr2 a ops x k -> ¬ Ptr2 a ops y k) -> p j (vw a (L.D j)) w -> p j (vw a (L.D j)) w'
 ptr : i ∈ L.al -> ∃ k, blk v = some k /\ w.heap.size <= k /\ k < w'.heap.size
def Stp4 (P : Program) (ops : Array Oper) (Q : Exit -> Act -> World -> Prop) (L : Plan) (p : Nat -> List (Option Value) -> World -> Prop) (B : (Nat -> Bool) -> World -> Prop) (a0 : Act) (i : Nat) (o : Oper) : Prop :=
 ∀ f a w, a.tmps.size = a0.tmps.size -> (∀ t, stays ops t = true -> a.tmps[t]? = a0.tmps[t]?) -> B f w -> (∀ j ∈ L.pre i, p j (vw a (L.D j)) w) -> (∀ j, i ∈ L.pre j -> f j = false) ->
  ∀ K : Act -> World -> Prop, Shut (∀ v w', Laid4 ops L p B f i o a w v w' -> K (a.put o.dst v) w') -> if Region.wanted o (yielded ops a.tmps) = true then Oper.wp P o a w K Q else K (a.put o.dst undef) w
inductive Stps4 (P : Program) (ops : Array Oper) (Q : Exit -> Act -> World -> Prop) (L : Plan) (p : Nat -> List (Option Value) -> World -> Prop) (B : (Nat -> Bool) -> World -> Prop) (a0 : Act) : Nat -> List Oper -> Prop
 | nil (i : Nat) : Stps4 P ops Q L p B a0 i []
 | cons {i : Nat} {o : Oper} {l : List Oper} : Stp4 P ops Q L p B a0 i o -> Stps4 P ops Q L p B a0 (i + 1) l -> Stps4 P ops Q L p B a0 i (o :: l)
section
variable {P : Program} {md : Region.Mode} {ops : Array Oper} {Q : Exit -> Act -> World -> Prop} {L : Plan} {p : Nat -> List (Option Value) -> World -> Prop} {B : (Nat -> Bool) -> World -> Prop} {a0 : Act}
theorem Stps4.get : ∀ {l : List Oper} {i : Nat}, Stps4 P ops Q L p B a0 i l -> ∀ k o, l[k]? = some o -> Stp4 P ops Q L p B a0 (i + k) o := by
 intro l
 induction l with
 | nil => intro i _ k o h; simp at h
 | cons x l ih =>
  intro i h k o hk
  cases h with
  | cons h1 h2 =>
   cases k with
   | zero => simp at hk; subst hk; exact h1
   | succ k => have := ih h2 k o (by simpa using hk); rwa [Nat.add_assoc, Nat.add_comm 1 k] at this
theorem Inv4.step (ok : L.ok md ops a0.tmps.size = true) (hal : L.al.all (fun i => (dstI ops i).isSome) = true) (stay : ∀ j v w w', Below w.heap.size w w' -> p j v w -> p j v w') {listed : Array Bool} {a : Act} {w : World} (I : Inv4 md ops L p B a0 listed a w) {i : Nat} {o : Oper} (ho : ops[i]? = some o)
    (hu : listed.getD i true = false) (hr : ∀ e ∈ o.after, Region.binds md e = true -> listed.getD e.on false = true) {v : Value} {w' : World} (G : Laid4 ops L p B (fun j => listed.getD j false) i o a w v w') :
    Inv4 md ops L p B a0 (listed.setIfInBounds i true) (a.put o.dst v) w' := by
 have hi : i < ops.size := (Array.getElem?_eq_some_iff.1 ho).1
 have hil : i < listed.size := by rw [I.lsz]; exact hi
 have hun := (lgt hu).2
 obtain ⟨c1, c2, c3⟩ := Plan.ok_spec ok hi
 have hd : dstI ops i = o.dst := by unfold dstI; rw [ho]; rfl
 have hpre : ∀ e ∈ L.pre i, listed.getD e false = true := by
  intro e he
  rcases c2 e he with h | ⟨k, hk, hek⟩
  · obtain ⟨x, h1, h2, rfl⟩ := (aft_mem ho).1 h; exact hr x h1 h2
  · obtain ⟨x, h1, h2, rfl⟩ := (aft_mem ho).1 hk; exact I.clo _ (hr x h1 h2) e hek
 have hput : ∀ t, (a.put o.dst v).tmps[t]? = if o.dst = some t then some v else a.tmps[t]? := by
  intro t
  cases hx : o.dst with
  | none => simp [Act.put]
  | some d =>
   have h4 := (c3 d (hd.trans hx)).1
   have h5 : d < a.tmps.size := by rw [I.asz]; exact h4
   simp only [Act.put, Array.getElem?_setIfInBounds, Option.some.injEq, if_pos h5]
 have hlj : ∀ j, listed.getD j false = true -> j < ops.size /\ j ≠ i := by
  intro j hj
  refine ⟨?_, fun e => by rw [e, hun] at hj; cases hj⟩
  rw [← I.lsz]
  by_cases h : j < listed.size
  · exact h
  · simp [Nat.le_of_not_lt h] at hj
 have hvw : ∀ j, listed.getD j false = true -> vw (a.put o.dst v) (L.D j) = vw a (L.D j) := by
  intro j hj
  unfold vw
  refine List.map_congr_left (fun t ht => ?_)
  rw [hput]
  refine if_neg (fun e => ?_)
  have h6 := ((c3 t (hd.trans e)).2 j (hlj j hj).1 (hlj j hj).2.symm).1 ht
  have h7 := I.clo j hj i h6
  rw [hun] at h7; cases h7
 have hptr : ∀ j, listed.getD j false = true -> ∀ k, Ptr2 (a.put o.dst v) ops j k ↔ Ptr2 a ops j k := by
  intro j hj k
  unfold Ptr2
  constructor
  · rintro ⟨d, u, h1, h2, h3⟩
    refine ⟨d, u, h1, ?_, h3⟩
    rw [hput, if_neg (fun e => ((c3 d (hd.trans e)).2 j (hlj j hj).1 (hlj j hj).2.symm).2 h1)] at h2
    exact h2
  · rintro ⟨d, u, h1, h2, h3⟩
    refine ⟨d, u, h1, ?_, h3⟩
    rw [hput, if_neg (fun e => ((c3 d (hd.trans e)).2 j (hlj j hj).1 (hlj j hj).2.symm).2 h1)]
    exact h2
 have hnew : i ∈ L.al -> ∀ k, Ptr2 (a.put o.dst v) ops i k -> w.heap.size <= k /\ k < w'.heap.size := by
  intro hal k ⟨d, u, h1, h2, h5⟩
  obtain ⟨k', hv, h3, h4⟩ := G.ptr hal
  rw [hput, if_pos (hd.symm.trans h1)] at h2
  cases h2
  rw [hv] at h5
  cases h5
  exact ⟨h3, h4⟩
 have hcase : ∀ j, (listed.setIfInBounds i true).getD j false = true -> j = i ∨ listed.getD j false = true := by
  intro j hj
  rw [lgd hil, Bool.or_eq_true, decide_eq_true_eq] at hj
  exact hj.imp Eq.symm id
 refine ⟨by simp [I.lsz], ?_, ?_, ?_, (upd_set hil ▸ G.bag), ?_, ?_, ?_, ?_⟩
 · cases o.dst <;> simp [Act.put, I.asz]
 · cases o.dst <;> simp [Act.put, I.dfs]
 · intro t ht
   rw [hput, if_neg, I.old t ht]
   intro e
   unfold stays at ht
   rw [List.all_eq_true] at ht
   have := ht i (List.mem_range.2 hi)
   rw [hd, e] at this
   simp at this
 · intro j hj
   rcases hcase j hj with rfl | hj
   · have := G.fct
     unfold vw
     rw [show (L.D j).map (fun t => (a.put o.dst v).tmps[t]?) = (L.D j).map (fun t => if o.dst = some t then some v else a.tmps[t]?) from List.map_congr_left (fun t _ => hput t)]
     exact this
   · rw [hvw j hj]
     rcases G.stay with hb | hs
     · exact stay j _ _ _ hb (I.fct j hj)
     · refine hs j (hlj j hj).2 ?_ (I.fct j hj)
       intro x hx y hy hxy hxi hyj
       exact I.apt x hx y hy hxy (hpre x hxi) (hyj.elim (I.clo j hj y) (fun e => e ▸ hj))
 · intro j hj e he
   rw [lgd hil, Bool.or_eq_true]
   rcases hcase j hj with rfl | hj
   · exact .inr (hpre e he)
   · exact .inr (I.clo j hj e he)
 · intro j hjal hj
   rcases hcase j hj with rfl | hj
   · obtain ⟨k, hv, h3, h4⟩ := G.ptr hjal
     cases hx : o.dst with
     | none =>
      have := List.all_eq_true.1 hal j hjal
      rw [hd, hx] at this; cases this
     | some d => exact ⟨k, ⟨d, v, hd.trans hx, by rw [← hx, hput, if_pos hx], hv⟩, h4⟩
   · obtain ⟨k, h1, h2⟩ := I.alo j hjal hj
     exact ⟨k, (hptr j hj k).2 h1, Nat.lt_of_lt_of_le h2 G.size⟩
 · intro x hx y hy hxy hlx0 hly0 k
   rcases hcase x hlx0 with rfl | hlx
   · rcases hcase y hly0 with e | hly
     · exact absurd e.symm hxy
     · intro h1 h2
       obtain ⟨k', h3, h4⟩ := I.alo y hy hly
       obtain ⟨d, x1, e1, e2, e5⟩ := (hptr y hly k).1 h2
       obtain ⟨d', x2, e3, e4, e6⟩ := h3
       rw [e1] at e3; cases e3
       rw [e2] at e4; cases e4
       rw [e5] at e6; cases e6
       have := (hnew hx k h1).1
       omega
   · rcases hcase y hly0 with rfl | hly
     · intro h1 h2
       obtain ⟨k', h3, h4⟩ := I.alo x hx hlx
       obtain ⟨d, x1, e1, e2, e5⟩ := (hptr x hlx k).1 h1
       obtain ⟨d', x2, e3, e4, e6⟩ := h3
       rw [e1] at e3; cases e3
       rw [e2] at e4; cases e4
       rw [e5] at e6; cases e6
       have := (hnew hy k h2).1
       omega
     · intro h1 h2
       exact I.apt x hx y hy hxy hlx hly k ((hptr x hlx k).1 h1) ((hptr y hly k).1 h2)
end
end Go.Proofs.YtnpoakaffafdiaaGreatDoor
namespace Go.Proofs.YtnpoakaffafdiaaGreatDoor
open Go.RowKit
attribute [local go_sem ↓] Go.wp_at_zero Go.wp_at_succ
def plZ : Array Value := #[.slice none 0 0, .bool false, .slice none 0 0, .slice none 0 0]
def put4 (w : World) (k : Nat) (a b c d : Value) : World := (((w.setCell ⟨k, 0, none⟩ a).setCell ⟨k, 1, none⟩ b).setCell ⟨k, 2, none⟩ c).setCell ⟨k, 3, none⟩ d
theorem Far.trans {g : Nat} {a b c : World} (h : Far g a b) (h2 : Far g b c) : Far g a c := ⟨Nat.le_trans h.size h2.size, fun k hk hl => (h2.block k hk (Nat.lt_of_lt_of_le hl h.size)).trans (h.block k hk hl)⟩
theorem Far.refl (g : Nat) (w : World) : Far g w w := ⟨Nat.le_refl _, fun _ _ _ => rfl⟩
theorem Far.of_below {g : Nat} {a b : World} (h : Below a.heap.size a b) : Far g a b := ⟨h.size, fun k _ hl => h.block k hl⟩
theorem Far.of_grown {g : Nat} {a b c : World} {row : Option Nat} (h : Far g a b) (hg : b.grownBy c row) (hr : ∀ x, row = some x -> a.heap.size <= x) : Far g a c :=
 ⟨Nat.le_trans h.size hg.size, fun k hk hl => (hg.block k (Nat.lt_of_lt_of_le hl h.size) (fun e => by have := hr k e.symm; omega)).trans (h.block k hk hl)⟩
theorem far_put4 (w : World) (k : Nat) (a b c d : Value) : Far k w (put4 w k a b c d) := (((Far.setCell _ _ _ _).trans (Far.setCell _ _ _ _)).trans (Far.setCell _ _ _ _)).trans (Far.setCell _ _ _ _)
theorem row_put4 {w : World} {k : Nat} {t : TypeId} {x0 x1 x2 x3 : Value} (h : Row w k t #[x0, x1, x2, x3]) (a b c d : Value) : Row (put4 w k a b c d) k t #[a, b, c, d] := (((h.set 0 a).set 1 b).set 2 c).set 3 d
theorem below_put4 {w w1 : World} {k : Nat} (h : Below w.heap.size w w1) (hk : w.heap.size <= k) (a b c d : Value) : Below w.heap.size w (put4 w1 k a b c d) := (((h.setCell (p := ⟨k, 0, none⟩) hk _).setCell (p := ⟨k, 1, none⟩) hk _).setCell (p := ⟨k, 2, none⟩) hk _).setCell (p := ⟨k, 3, none⟩) hk _
def NoInt (cs : Array Value) : Prop := ∀ (o : Nat) (ki : IntKind) (z : Int), cs[o]? ≠ some (.int ki z)
theorem noInt_pl (sa : Option Addr) (sn sc : Nat) (ch : Bool) (ta : Option Addr) (tn tc : Nat) (na : Option Addr) (nn nc : Nat) : NoInt (plC sa sn sc ch ta tn tc na nn nc) := by
 intro o ki z h
 unfold plC at h
 rcases o with _ | _ | _ | _ | o
 all_goals first | (simp at h; done) | (cases h)
theorem Row.noLimb' {w : World} {g : Nat} {t : TypeId} {cs : Array Value} (h : Row w g t cs) (hn : NoInt cs) : NoLimb w g := by
 intro o z hc
 rw [h.cell o] at hc
 exact hn _ _ _ hc
theorem KRow.apart {w : World} {ki : IntKind} {a : Option Addr} {n c : Nat} {f : Nat -> Int} {g : Nat} {t : TypeId} {cs : Array Value} (h : KRow w ki a n c f) (hr : Row w g t cs) (hn : NoInt cs) : n = 0 ∨ ∀ x, a = some x -> x.block ≠ g := by
 rcases Nat.eq_zero_or_pos n with h0 | h0
 · exact .inl h0
 · obtain ⟨b, off, rfl, _, hc⟩ := h.2.2.resolve_left (by omega)
   refine .inr fun x hx e => ?_
   obtain rfl := Option.some.inj hx
   have e : b = g := e
   subst e
   have := hc 0 h0
   rw [hr.cell] at this
   exact hn _ _ _ this
theorem RRow.older {w : World} {a : Option Addr} {n c : Nat} {fP : Nat -> Int} {fQ : Nat -> Nat} {g : Nat} (h : RRow w a n c fP fQ) (hg : w.heap.size <= g) : n = 0 ∨ ∀ x, a = some x -> x.block ≠ g := by
 rcases h.2.2 with h0 | ⟨b, off, rfl, hl, _⟩
 · exact .inl h0
 · refine .inr fun x hx e => ?_
   obtain rfl := Option.some.inj hx
   have e : b = g := e
   omega
theorem QRow.away {w w' : World} {sa : Option Addr} {n c : Nat} {fB : Nat -> Bool} {fS fT : Nat -> ByteArray} {g : Nat} (h : QRow w sa n c fB fS fT) (hg : n = 0 ∨ ∀ x, sa = some x -> x.block ≠ g) (hf : Far g w w') : QRow w' sa n c fB fS fT := by
 refine ⟨h.1, h.2.1, ?_⟩
 rcases h.2.2 with h0 | ⟨b, off, rfl, hl, hcc⟩
 · exact .inl h0
 · rcases hg with h0 | hg
   · exact .inl h0
   · have hbg : b ≠ g := hg _ rfl
     refine .inr ⟨b, off, rfl, Nat.lt_of_lt_of_le hl hf.size, fun j hj => ?_⟩
     obtain ⟨e1, e2, e3⟩ := hcc j hj
     exact ⟨(hf.cell (a := ⟨b, _, none⟩) hbg hl).trans e1, (hf.cell (a := ⟨b, _, none⟩) hbg hl).trans e2, (hf.cell (a := ⟨b, _, none⟩) hbg hl).trans e3⟩
theorem own_ne {w : World} {base : Nat} {e : TypeId} {size : Nat} {a : Option Addr} {n c k : Nat} {xs : List Value} {g : Nat} (h : w.ownsRow base e size (.slice a n c) k xs) (hg : g < base) : n = 0 ∨ ∀ x, a = some x -> x.block ≠ g := by
 rcases h.2 with ⟨e, _⟩ | ⟨g', cap, cur, e, _, _⟩
 · cases e; exact .inl rfl
 · have hlt := h.lt
   injection e with e1 e2 e3
   subst e1
   refine .inr fun x hx e => ?_
   obtain rfl := Option.some.inj hx
   have e : g' = g := e
   have := (hlt g' rfl).1
   omega
theorem pl_step {w y0 wr w2 : World} {P : Nat} {sa : Option Addr} {sn sc : Nat} {ch : Bool} {ta : Option Addr} {tn tc : Nat} {a : Option Addr} {k c : Nat} {fB : Nat -> Bool} {fS fT : Nat -> ByteArray} {T E : TypeId} (hbl : Below w.heap.size w wr) (hf : Far P y0 wr) (hb : Below wr.heap.size wr w2)
    (hr : Row w2 P T (plC sa sn sc ch ta tn tc a k c)) (ho : w2.ownsRow y0.heap.size E 3 (.slice a k c) k (qcs fB fS fT k)) (hne : E ≠ T) (hP : w.heap.size <= P) (hy : w.heap.size <= y0.heap.size) :
    ∀ (g cap : Nat) (w3 : World), w3.ownsRow y0.heap.size E 3 (.slice (some ⟨g, 0, none⟩) (k + 1) cap) (k + 1) (qcs fB fS fT k ++ [.bool (fB k), .string (fS k), .string (fT k)]) -> w2.grownBy w3 (Value.slice a k c).ownBlock ->
    Below w.heap.size w (w3.setCell ⟨P, 3, none⟩ (.slice (some ⟨g, 0, none⟩) (k + 1) cap)) /\ Far P y0 (w3.setCell ⟨P, 3, none⟩ (.slice (some ⟨g, 0, none⟩) (k + 1) cap)) /\ Row (w3.setCell ⟨P, 3, none⟩ (.slice (some ⟨g, 0, none⟩) (k + 1) cap)) P T (plC sa sn sc ch ta tn tc (some ⟨g, 0, none⟩) (k + 1) cap)
     /\ (w3.setCell ⟨P, 3, none⟩ (.slice (some ⟨g, 0, none⟩) (k + 1) cap)).ownsRow y0.heap.size E 3 (.slice (some ⟨g, 0, none⟩) (k + 1) cap) (k + 1) (qcs fB fS fT (k + 1)) := by
 intro g cap w3 ho3 hg
 have hlt := ho.lt
 have hr3 := hr.grown hg (hr.apart ho hne)
 have hb2 : Below w.heap.size w w2 := hbl.trans (hb.mono hbl.size)
 have hb3 : Below w.heap.size w w3 := hb2.trans ⟨hg.os, hg.tape, hg.output, hg.size, fun j hj => hg.block j (Nat.lt_of_lt_of_le hj hb2.size) (fun e => by have := (hlt j e.symm).1; omega)⟩
 refine ⟨hb3.setCell (p := ⟨P, 3, none⟩) hP _, ((hf.trans (Far.of_below hb)).of_grown hg (fun x hx => (hlt x hx).1)).trans (Far.setCell _ _ _ _), hr3.set 3 _, own_setCell ho3 _ _ _ (hr3.apart ho3 hne)⟩
theorem plain_any (ch : Bool) (f : Nat -> Int) (r : Nat) (na : Option Addr) (n nc : Nat) (ta : Option Addr) (tn tc : Nat) (fP : Nat -> Int) (fQ : Nat -> Nat) (g : Nat -> Int) (w : World) (hr : r <= 8) (h : RRow w na n nc fP fQ) (ht : KRow w .i32 ta tn tc g) (hn : n <= 1000000) (htn : tn <= 1000000)
    (hQ : ∀ j, j < n -> 0 < fQ j) (K : Nat) (hK : K <= 100000) (h1 : ∀ j, j < n -> (fP j).natAbs < 4294967296 ^ K) (h2 : ∀ j, j < n -> fQ j < 4294967296 ^ K) :
    Calls Tryz.prog 47 #[.agg (arrC ch ((r : Int) - 1) (dm f r) na n nc ta tn tc)] w fun e w' => ∃ cs, e = .returned (.agg cs) /\ PlnAt w' cs f r ch g tn (fun j => rB (fP j)) (fun j => rS (fP j)) (fun j => str (dec (fQ j))) n /\ Below w.heap.size w w' := by
 have SH := Lib.hid (fun wz => shape_any ch f r na n nc ta tn tc wz hr)
 have RU := Lib.hid (fun wz h => runes_any ch ((r : Int) - 1) (dm f r) na n nc ta tn tc g wz h htn)
 obtain ⟨i0, hi, hz0, hz1, hz2⟩ := info_parts infoN
 have NM := Lib.hid (fun a n' c m a2 n2 c2 P Q wz hz hq p1 p2 => num_any a n' c m a2 n2 c2 P Q wz hz hq K hK p1 p2)
 unfold NumTold at NM
 have HQ := Lib.hid hQ
 have H1 := Lib.hid h1
 have H2 := Lib.hid h2
 have HR := Lib.hid h
 have hl := h.len
 have BB := Lib.hid (((((Bag.start w).krow ht).rrow h).newRow (arrC ch ((r : Int) - 1) (dm f r) na n nc ta tn tc) 36).newRow plZ 26)
 simp only [World.size_alloc] at BB
 generalize dm f r = d at *
 generalize (r : Int) - 1 = more at *
 unfold arrC at BB SH RU
 unfold arrC
 unfold plZ at BB
 clear h ht hQ h1 h2
 go_enter Tryz.func47, Tryz.ntmps47
 go_wp2_with fail
 refine wp_region_inv3 ⟨(fun j => ([[6], [7], [8], [9], [10], [11], [12], [3], []] : List (List Nat)).getD j []), (fun j => ([[], [0], [], [2], [], [0, 1, 4], [0, 1, 2, 3, 4, 5], [], [0, 1, 2, 3, 4, 5, 6, 7]] : List (List Nat)).getD j []), [7]⟩ 8 (fun jj vv yy => match jj with | 0 => vv = [some (.agg #[.bool ch, .int .i64 more, .int .i64 (d 0), .int .i64 (d 1), .int .i64 (d 2), .int .i64 (d 3), .int .i64 (d 4), .int .i64 (d 5), .int .i64 (d 6), .int .i64 (d 7), .slice na n nc, .slice ta tn tc])] | 1 => ∃ (x1 : Option Addr), ∃ (c1 : Nat), vv = [some (.slice x1 r c1)] /\ KRow yy .i64 x1 r c1 f | 2 => vv = [some (.pointer (some ⟨w.heap.size, 0, none⟩))] | 3 => vv = [some (.bool ch)] | 4 => vv = [some (.agg #[.bool ch, .int .i64 more, .int .i64 (d 0), .int .i64 (d 1), .int .i64 (d 2), .int .i64 (d 3), .int .i64 (d 4), .int .i64 (d 5), .int .i64 (d 6), .int .i64 (d 7), .slice na n nc, .slice ta tn tc])] | 5 => ∃ (x5 : Option Addr), ∃ (c5 : Nat), vv = [some (.slice x5 tn c5)] /\ KRow yy .i32 x5 tn c5 g | 6 => ∃ (x1 : Option Addr), ∃ (c1 : Nat), ∃ (x5 : Option Addr), ∃ (c5 : Nat), vv = [some (.agg #[.slice x1 r c1, .bool ch, .slice x5 tn c5, .slice none 0 0])] /\ KRow yy .i64 x1 r c1 f /\ KRow yy .i32 x5 tn c5 g | 7 => ∃ (k7 : Nat), vv = [some (.pointer (some ⟨k7, 0, none⟩))] /\ Row yy k7 26 #[.slice none 0 0, .bool false, .slice none 0 0, .slice none 0 0] /\ w.heap.size + 1 < k7 | _ => True) (Bag w (fun y => Row y (w.heap.size + 1) 26 #[.slice none 0 0, .bool false, .slice none 0 0, .slice none 0 0] /\ Row y w.heap.size 36 #[.bool ch, .int .i64 more, .int .i64 (d 0), .int .i64 (d 1), .int .i64 (d 2), .int .i64 (d 3), .int .i64 (d 4), .int .i64 (d 5), .int .i64 (d 6), .int .i64 (d 7), .slice na n nc, .slice ta tn tc] /\ RRow y na n nc fP fQ /\ KRow y .i32 ta tn tc g /\ True)) (by kernel_rfl) (by kernel_rfl) (by kernel_rfl) (by kernel_rfl) BB.out.drew ?_ ?_ ?_
 · intro jj vv yw yw2 hb h
   match jj, h with
   | 0, h => exact h
   | 1, ⟨x1, c1, e1, g1_0⟩ => exact Exists.intro x1 (Exists.intro c1 (And.intro e1 (g1_0.below hb)))
   | 2, h => exact h
   | 3, h => exact h
   | 4, h => exact h
   | 5, ⟨x5, c5, e5, g5_0⟩ => exact Exists.intro x5 (Exists.intro c5 (And.intro e5 (g5_0.below hb)))
   | 6, ⟨x1, c1, x5, c5, e6, g6_0, g6_1⟩ => exact Exists.intro x1 (Exists.intro c1 (Exists.intro x5 (Exists.intro c5 (And.intro e6 (And.intro (g6_0.below hb) (g6_1.below hb))))))
   | 7, ⟨k7, e7, g7_0, g7_1⟩ => exact Exists.intro k7 (And.intro e7 (And.intro (g7_0.below hb) g7_1))
   | _ + 8, h => exact h
 · intro ac yw hsz hdf hold hB hp
   obtain ⟨P, e7, hp0, hP⟩ := hp 7 (by decide)
   obtain ⟨x1, c1, x5, c5, e6, hk1, hk5⟩ := hp 6 (by decide)
   have t3 : ac.tmps[3]? = some (.pointer (some ⟨P, 0, none⟩)) := (List.cons.inj e7).1
   have t12 : ac.tmps[12]? = some (.agg #[.slice x1 r c1, .bool ch, .slice x5 tn c5, .slice none 0 0]) := (List.cons.inj e6).1
   have t1 : ac.tmps[1]? = some (.pointer (some ⟨w.heap.size, 0, none⟩)) := hold 1 (by kernel_rfl)
   have t2 : ac.tmps[2]? = some (.pointer (some ⟨w.heap.size + 1, 0, none⟩)) := hold 2 (by kernel_rfl)
   clear hold hp e6 e7
   obtain ⟨TV, hTV⟩ : ∃ TV : Nat -> Value, ∀ i, (ac.tmps[i]?).getD undef = TV i := ⟨_, fun _ => rfl⟩
   have f1 := (hTV 1).symm.trans (congrArg (fun x => Option.getD x undef) t1)
   have f2 := (hTV 2).symm.trans (congrArg (fun x => Option.getD x undef) t2)
   have f3 := (hTV 3).symm.trans (congrArg (fun x => Option.getD x undef) t3)
   have f12 := (hTV 12).symm.trans (congrArg (fun x => Option.getD x undef) t12)
   have hac := act_eq (n := 29) hsz TV hTV
   rw [show ((List.range 29).map TV).toArray = #[TV 0, TV 1, TV 2, TV 3, TV 4, TV 5, TV 6, TV 7, TV 8, TV 9, TV 10, TV 11, TV 12, TV 13, TV 14, TV 15, TV 16, TV 17, TV 18, TV 19, TV 20, TV 21, TV 22, TV 23, TV 24, TV 25, TV 26, TV 27, TV 28] from rfl, f1, f2, f3, f12, hdf] at hac
   simp only [Option.getD_some] at hac
   subst hac
   clear hTV f1 f2 f3 f12
   have q0 : yw.cell? ⟨P, 0, none⟩ = some (.slice none 0 0) := hp0.cell 0
   have q1 : yw.cell? ⟨P, 1, none⟩ = some (.bool false) := hp0.cell 1
   have q2 : yw.cell? ⟨P, 2, none⟩ = some (.slice none 0 0) := hp0.cell 2
   have q3 : yw.cell? ⟨P, 3, none⟩ = some (.slice none 0 0) := hp0.cell 3
   have g0 := hp0.free 0
   have g1 := hp0.free 1
   have g2 := hp0.free 2
   have g3 := hp0.free 3
   have hnl : NoInt (plC none 0 0 false none 0 0 none 0 0) := noInt_pl _ _ _ _ _ _ _ _ _ _
   have HF := far_put4 yw P (.slice x1 r c1) (.bool ch) (.slice x5 tn c5) (.slice none 0 0)
   have HY : Hid (Below w.heap.size w (put4 yw P (.slice x1 r c1) (.bool ch) (.slice x5 tn c5) (.slice none 0 0)) /\ Row (put4 yw P (.slice x1 r c1) (.bool ch) (.slice x5 tn c5) (.slice none 0 0)) P 26 (plC x1 r c1 ch x5 tn c5 none 0 0)
       /\ Row (put4 yw P (.slice x1 r c1) (.bool ch) (.slice x5 tn c5) (.slice none 0 0)) (w.heap.size + 1) 26 #[.slice none 0 0, .bool false, .slice none 0 0, .slice none 0 0] /\ Row (put4 yw P (.slice x1 r c1) (.bool ch) (.slice x5 tn c5) (.slice none 0 0)) w.heap.size 36 #[.bool ch, .int .i64 more, .int .i64 (d 0), .int .i64 (d 1), .int .i64 (d 2), .int .i64 (d 3), .int .i64 (d 4), .int .i64 (d 5), .int .i64 (d 6), .int .i64 (d 7), .slice na n nc, .slice ta tn tc]
       /\ RRow (put4 yw P (.slice x1 r c1) (.bool ch) (.slice x5 tn c5) (.slice none 0 0)) na n nc fP fQ /\ (n = 0 ∨ ∀ x, na = some x -> x.block ≠ P)
       /\ KRow (put4 yw P (.slice x1 r c1) (.bool ch) (.slice x5 tn c5) (.slice none 0 0)) .i64 x1 r c1 f /\ KRow (put4 yw P (.slice x1 r c1) (.bool ch) (.slice x5 tn c5) (.slice none 0 0)) .i32 x5 tn c5 g) :=
    ⟨below_put4 hB.below (by omega) _ _ _ _, row_put4 hp0 _ _ _ _, (HF.block _ (by omega) hB.now.1.lt).trans hB.now.1, (HF.block _ (by omega) hB.now.2.1.lt).trans hB.now.2.1,
      hB.now.2.2.1.away (hp0.noLimb' hnl) (HR.out.older (by omega)) HF, HR.out.older (by omega), hk1.away (hk1.apart hp0 hnl) HF, hk5.away (hk5.apart hp0 hnl) HF⟩
   unfold put4 at HY
   clear HF hnl hp0 hk1 hk5 hB t1 t2 t3 t12
   refine TailWp.step rfl ?_
   intro K hK
   go_simp
   refine hK.out _ _ ?_
   refine TailWp.end rfl ?_
   generalize (((yw.setCell ⟨P, 0, none⟩ (.slice x1 r c1)).setCell ⟨P, 1, none⟩ (.bool ch)).setCell ⟨P, 2, none⟩ (.slice x5 tn c5)).setCell ⟨P, 3, none⟩ (.slice none 0 0) = y0 at *
   clear q0 q1 q2 q3 g0 g1 g2 g3
   obtain ⟨hbl0, hrp0, hrr0, hrb0, hnn0, hne0, hks0, hkt0⟩ := HY.out
   have qn : y0.cell? ⟨w.heap.size, 10, none⟩ = some (.slice na n nc) := hrb0.cell 10
   have H0 : Hid (Below w.heap.size w y0 /\ Far P y0 y0 /\ Row y0 P 26 (plC x1 r c1 ch x5 tn c5 none 0 0) /\ y0.ownsRow y0.heap.size 53 3 (.slice none 0 0) 0 (qcs (fun j => rB (fP j)) (fun j => rS (fP j)) (fun j => str (dec (fQ j))) 0)) :=
    ⟨hbl0, Far.refl _ _, hrp0, World.ownsRow_nil _ _ _ _⟩
   have HPP := Lib.hid (And.intro (show w.heap.size + 1 < P by omega) hbl0.size)
   clear hbl0 hrp0 hrr0 hrb0 hnn0 hne0 hks0 hkt0 hP
   go_wp2_with fail
   go_loopw [16] (fun i wr => ∃ (k : Nat) (a : Option Addr) (c : Nat), k <= n /\ i = .int .i64 k /\ Hid (Below w.heap.size w wr /\ Far P y0 wr /\ Row wr P 26 (plC x1 r c1 ch x5 tn c5 a k c) /\ wr.ownsRow y0.heap.size 53 3 (.slice a k c) k (qcs (fun j => rB (fP j)) (fun j => rS (fP j)) (fun j => str (dec (fQ j))) k))) (fun i _ => n - (intOf i).toNat)
   case atStart => exact ⟨0, none, 0, by omega, rfl, H0.out⟩
   case round =>
    obtain ⟨k, a, c, hk, rfl, hrel⟩ := hrel
    obtain ⟨hbl, hfar, hrp, hown⟩ := hrel.out
    obtain ⟨_, hrp0, hrr0, hrb0, hnn0, hne0, hks0, hkt0⟩ := HY.out
    by_cases hlt : k < n
    · obtain ⟨b, off, a', n', c', m', a2', n2', c2', rfl, hlb, e1, e2, e3, hi'⟩ := (hnn0.away (hrp0.noLimb' (noInt_pl _ _ _ _ _ _ _ _ _ _)) hne0 hfar).get hlt
      have BB := Lib.hid (((((Bag.start wr).own hown).row hrp).rat hi').alloc (.cells #[.slice a' n' c', .bool m', .slice a2' n2' c2'] 60))
      have HBL := Lib.hid hbl
      have HF := Lib.hid hfar
      have qp : (wr.alloc (.cells #[.slice a' n' c', .bool m', .slice a2' n2' c2'] 60)).cell? ⟨P, 3, none⟩ = some (.slice a k c) := BB.out.now.2.1.cell 3
      clear hbl hfar hrp hown hrp0 hrr0 hrb0 hnn0 hne0 hks0 hkt0 hi'
      have HMX := Lib.hid (show k + 1 <= maxLen by unfold maxLen; omega)
      have HMY := Lib.hid (show (k + 1) * 40 <= 140737488355328 by omega)
      have HONE := Lib.hid (show ∀ u ∈ ([.bool (rB (fP k)), .string (rS (fP k)), .string (str (dec (fQ k)))] : List Value), u.oneCell' = true by intro u hu; simp at hu; rcases hu with rfl | rfl | rfl <;> rfl)
      go_wp2_with fail
      go_region_law (first
       | (go_simp; go_at_call 22; (with_reducible refine (NM.out _ _ _ _ _ _ _ (fP k) (fQ k) _ ?_ ?_ ?_ ?_).mono ?_); exact BB.out.drew.now.1; exact HQ.out k hlt; exact H1.out k hlt; exact H2.out k hlt; rintro e w2 ⟨rfl, hb2⟩;
           have B2 := Lib.hid ((BB.out.drew.go hb2).newRow #[.bool (rB (fP k)), .string (rS (fP k)), .string (str (dec (fQ k)))] 53);
           have qp2 : w2.cell? ⟨P, 3, none⟩ = some (.slice a k c) := (BB.out.drew.go hb2).now.2.1.cell 3;
           have qp3 : (w2.alloc (.cells #[.bool (rB (fP k)), .string (rS (fP k)), .string (str (dec (fQ k)))] 53)).cell? ⟨P, 3, none⟩ = some (.slice a k c) := B2.out.now.2.2.1.cell 3;
           have HROW := Lib.hid B2.out.now.2.2.1;
           have HOWN := Lib.hid B2.out.now.2.2.2.1;
           have HNEW := Lib.hid (World.news_of_block B2.out.now.1);
           have HBA := Lib.hid (Nat.le_trans HF.out.size B2.out.below.size);
           have HNX := Lib.hid (pl_step HBL.out HF.out B2.out.below HROW.out HOWN.out (by decide) (by have := HPP.out.1; omega) HPP.out.2);
           clear hb2)
       | (refine step_append_lies _ rfl (.tmp 21) (.tmp 24) 24 rfl y0.heap.size 53 i0 _ 3 40 Tryz.underlying24 hi hz0 hz1 hz2 rfl (by omega) (.slice a k c) k _ rfl HOWN.out ⟨w2.heap.size, 0, none⟩ 1 1 [.bool (rB (fP k)), .string (rS (fP k)), .string (str (dec (fQ k)))] rfl rfl HNEW.out HONE.out (by omega) HMX.out HMY.out HBA.out _ rfl ?_; intro g9 cap9 w3 hown3 hgrow hor hlt3;
           have hx := HOWN.out.lt; have hr3 := HROW.out.grown hgrow (HROW.out.apart HOWN.out (by decide)); have qp : w3.cell? ⟨P, 3, none⟩ = some (.slice a k c) := hr3.cell 3; have fp := hr3.free 3; have HN := Lib.hid (HNX.out g9 cap9 w3 hown3 hgrow); clear hx hown3 hgrow hor hlt3 hr3))
      all_goals
       go_wp2
       go_roundw
       case rel => exact ⟨k + 1, _, cap9, by omega, by go_num, HN.out⟩
       case measure => simp [intOf]; omega
    · obtain rfl : k = n := by omega
      have hnk := noInt_pl x1 r c1 ch x5 tn c5 none 0 0
      have qp : wr.cell? ⟨P, 0, none⟩ = some (.slice x1 r c1) := hrp.cell 0
      have qp1 : wr.cell? ⟨P, 1, none⟩ = some (.bool ch) := hrp.cell 1
      have qp2 : wr.cell? ⟨P, 2, none⟩ = some (.slice x5 tn c5) := hrp.cell 2
      have qp3 : wr.cell? ⟨P, 3, none⟩ = some (.slice a k c) := hrp.cell 3
      have hr2 : Row wr (w.heap.size + 1) 26 #[.slice none 0 0, .bool false, .slice none 0 0, .slice none 0 0] := (hfar.block _ (by have := HPP.out.1; omega) hrr0.lt).trans hrr0
      have c0 : wr.cell? ⟨w.heap.size + 1, 0, none⟩ = some (.slice none 0 0) := hr2.cell 0
      have c1' : wr.cell? ⟨w.heap.size + 1, 1, none⟩ = some (.bool false) := hr2.cell 1
      have c2 : wr.cell? ⟨w.heap.size + 1, 2, none⟩ = some (.slice none 0 0) := hr2.cell 2
      have c3 : wr.cell? ⟨w.heap.size + 1, 3, none⟩ = some (.slice none 0 0) := hr2.cell 3
      have f0 := hr2.free 0
      have f1 := hr2.free 1
      have f2 := hr2.free 2
      have f3 := hr2.free 3
      have hF := far_put4 wr (w.heap.size + 1) (.slice x1 r c1) (.bool ch) (.slice x5 tn c5) (.slice a k c)
      have hR := row_put4 hr2 (.slice x1 r c1) (.bool ch) (.slice x5 tn c5) (.slice a k c)
      have hni : NoInt #[.slice none 0 0, .bool false, .slice none 0 0, .slice none 0 0] := noInt_pl none 0 0 false none 0 0 none 0 0
      have k1 := hks0.away (hks0.apart hrp0 hnk) hfar
      have k5 := hkt0.away (hkt0.apart hrp0 hnk) hfar
      obtain ⟨a1, c9, he, hq⟩ := QRow.of_own hown
      injection he with he1 _ he2
      subst he1 he2
      have HE : Hid ((∃ cs, (Ending.returned (.agg #[.slice x1 r c1, .bool ch, .slice x5 tn c5, .slice a k c])) = .returned (.agg cs) /\ PlnAt (put4 wr (w.heap.size + 1) (.slice x1 r c1) (.bool ch) (.slice x5 tn c5) (.slice a k c)) cs f r ch g tn (fun j => rB (fP j)) (fun j => rS (fP j)) (fun j => str (dec (fQ j))) k /\ Below w.heap.size w (put4 wr (w.heap.size + 1) (.slice x1 r c1) (.bool ch) (.slice x5 tn c5) (.slice a k c)))) :=
       ⟨_, rfl, ⟨_, _, _, _, _, _, rfl, k1.away (k1.apart hr2 hni) hF, k5.away (k5.apart hr2 hni) hF, hq.away (own_ne hown (by have := HPP.out; have := hrp0.lt; omega)) hF⟩, below_put4 hbl (by omega) _ _ _ _⟩
      have HS : Hid (∀ i, (put4 wr (w.heap.size + 1) (.slice x1 r c1) (.bool ch) (.slice x5 tn c5) (.slice a k c)).cell? ⟨w.heap.size + 1, i, none⟩ = (#[.slice x1 r c1, .bool ch, .slice x5 tn c5, .slice a k c] : Array Value)[i]?) := fun i => hR.cell i
      have s0 := HS.out 0
      have s1 := HS.out 1
      have s2 := HS.out 2
      have s3 := HS.out 3
      unfold put4 at HE s0 s1 s2 s3
      clear hbl hfar hrp hown hrp0 hrr0 hrb0 hnn0 hne0 hks0 hkt0 hF hR hni k1 k5 hq hr2 hnk HS
      go_wp2
      exact bodyPost_ret (v := .agg #[.slice x1 r c1, .bool ch, .slice x5 tn c5, .slice a k c]) (by simp [results, Tryz.results47, go_sem, s0, s1, s2, s3]) rfl HE.out
 refine Stps2.cons (o := _) ?_ ?_
 · intro ac yw hsz hold hB hp K hK
   have t1 : ac.tmps[1]? = some (.pointer (some ⟨w.heap.size, 0, none⟩)) := hold 1 (by kernel_rfl)
   clear hold hp hsz
   have v0 : yw.cell? ⟨w.heap.size, 0, none⟩ = some (.bool ch) := hB.now.2.1.cell 0
   have v1 : yw.cell? ⟨w.heap.size, 1, none⟩ = some (.int .i64 more) := hB.now.2.1.cell 1
   have v2 : yw.cell? ⟨w.heap.size, 2, none⟩ = some (.int .i64 (d 0)) := hB.now.2.1.cell 2
   have v3 : yw.cell? ⟨w.heap.size, 3, none⟩ = some (.int .i64 (d 1)) := hB.now.2.1.cell 3
   have v4 : yw.cell? ⟨w.heap.size, 4, none⟩ = some (.int .i64 (d 2)) := hB.now.2.1.cell 4
   have v5 : yw.cell? ⟨w.heap.size, 5, none⟩ = some (.int .i64 (d 3)) := hB.now.2.1.cell 5
   have v6 : yw.cell? ⟨w.heap.size, 6, none⟩ = some (.int .i64 (d 4)) := hB.now.2.1.cell 6
   have v7 : yw.cell? ⟨w.heap.size, 7, none⟩ = some (.int .i64 (d 5)) := hB.now.2.1.cell 7
   have v8 : yw.cell? ⟨w.heap.size, 8, none⟩ = some (.int .i64 (d 6)) := hB.now.2.1.cell 8
   have v9 : yw.cell? ⟨w.heap.size, 9, none⟩ = some (.int .i64 (d 7)) := hB.now.2.1.cell 9
   have v10 : yw.cell? ⟨w.heap.size, 10, none⟩ = some (.slice na n nc) := hB.now.2.1.cell 10
   have v11 : yw.cell? ⟨w.heap.size, 11, none⟩ = some (.slice ta tn tc) := hB.now.2.1.cell 11
   go_simp
   exact hK.out _ _ ⟨hB, rfl, Nat.le_refl _, .inl (Below.refl _ _), fun h => absurd h (by decide)⟩
 refine Stps2.cons (o := _) ?_ ?_
 · intro ac yw hsz hold hB hp K hK
   have e0 := hp 0 (by decide)
   have t6 : ac.tmps[6]? = some (.agg #[.bool ch, .int .i64 more, .int .i64 (d 0), .int .i64 (d 1), .int .i64 (d 2), .int .i64 (d 3), .int .i64 (d 4), .int .i64 (d 5), .int .i64 (d 6), .int .i64 (d 7), .slice na n nc, .slice ta tn tc]) := (List.cons.inj e0).1
   clear hold hp hsz e0
   go_simp
   (go_at_call 40; (with_reducible refine (SH.out _).mono ?_); rintro e wz ⟨x1, c1, rfl, h1_0, hbz⟩)
   exact hK.out _ _ ⟨hB.go hbz, Exists.intro x1 (Exists.intro c1 (And.intro rfl h1_0)), hbz.size, .inl hbz, fun h => absurd h (by decide)⟩
 refine Stps2.cons (o := _) ?_ ?_
 · intro ac yw hsz hold hB hp K hK
   have t1 : ac.tmps[1]? = some (.pointer (some ⟨w.heap.size, 0, none⟩)) := hold 1 (by kernel_rfl)
   clear hold hp hsz
   go_simp
   exact hK.out _ _ ⟨hB, rfl, Nat.le_refl _, .inl (Below.refl _ _), fun h => absurd h (by decide)⟩
 refine Stps2.cons (o := _) ?_ ?_
 · intro ac yw hsz hold hB hp K hK
   have e2 := hp 2 (by decide)
   have t8 : ac.tmps[8]? = some (.pointer (some ⟨w.heap.size, 0, none⟩)) := (List.cons.inj e2).1
   clear hold hp hsz e2
   have v0 : yw.cell? ⟨w.heap.size, 0, none⟩ = some (.bool ch) := hB.now.2.1.cell 0
   have v1 : yw.cell? ⟨w.heap.size, 1, none⟩ = some (.int .i64 more) := hB.now.2.1.cell 1
   have v2 : yw.cell? ⟨w.heap.size, 2, none⟩ = some (.int .i64 (d 0)) := hB.now.2.1.cell 2
   have v3 : yw.cell? ⟨w.heap.size, 3, none⟩ = some (.int .i64 (d 1)) := hB.now.2.1.cell 3
   have v4 : yw.cell? ⟨w.heap.size, 4, none⟩ = some (.int .i64 (d 2)) := hB.now.2.1.cell 4
   have v5 : yw.cell? ⟨w.heap.size, 5, none⟩ = some (.int .i64 (d 3)) := hB.now.2.1.cell 5
   have v6 : yw.cell? ⟨w.heap.size, 6, none⟩ = some (.int .i64 (d 4)) := hB.now.2.1.cell 6
   have v7 : yw.cell? ⟨w.heap.size, 7, none⟩ = some (.int .i64 (d 5)) := hB.now.2.1.cell 7
   have v8 : yw.cell? ⟨w.heap.size, 8, none⟩ = some (.int .i64 (d 6)) := hB.now.2.1.cell 8
   have v9 : yw.cell? ⟨w.heap.size, 9, none⟩ = some (.int .i64 (d 7)) := hB.now.2.1.cell 9
   have v10 : yw.cell? ⟨w.heap.size, 10, none⟩ = some (.slice na n nc) := hB.now.2.1.cell 10
   have v11 : yw.cell? ⟨w.heap.size, 11, none⟩ = some (.slice ta tn tc) := hB.now.2.1.cell 11
   go_simp
   exact hK.out _ _ ⟨hB, rfl, Nat.le_refl _, .inl (Below.refl _ _), fun h => absurd h (by decide)⟩
 refine Stps2.cons (o := _) ?_ ?_
 · intro ac yw hsz hold hB hp K hK
   have t1 : ac.tmps[1]? = some (.pointer (some ⟨w.heap.size, 0, none⟩)) := hold 1 (by kernel_rfl)
   clear hold hp hsz
   have v0 : yw.cell? ⟨w.heap.size, 0, none⟩ = some (.bool ch) := hB.now.2.1.cell 0
   have v1 : yw.cell? ⟨w.heap.size, 1, none⟩ = some (.int .i64 more) := hB.now.2.1.cell 1
   have v2 : yw.cell? ⟨w.heap.size, 2, none⟩ = some (.int .i64 (d 0)) := hB.now.2.1.cell 2
   have v3 : yw.cell? ⟨w.heap.size, 3, none⟩ = some (.int .i64 (d 1)) := hB.now.2.1.cell 3
   have v4 : yw.cell? ⟨w.heap.size, 4, none⟩ = some (.int .i64 (d 2)) := hB.now.2.1.cell 4
   have v5 : yw.cell? ⟨w.heap.size, 5, none⟩ = some (.int .i64 (d 3)) := hB.now.2.1.cell 5
   have v6 : yw.cell? ⟨w.heap.size, 6, none⟩ = some (.int .i64 (d 4)) := hB.now.2.1.cell 6
   have v7 : yw.cell? ⟨w.heap.size, 7, none⟩ = some (.int .i64 (d 5)) := hB.now.2.1.cell 7
   have v8 : yw.cell? ⟨w.heap.size, 8, none⟩ = some (.int .i64 (d 6)) := hB.now.2.1.cell 8
   have v9 : yw.cell? ⟨w.heap.size, 9, none⟩ = some (.int .i64 (d 7)) := hB.now.2.1.cell 9
   have v10 : yw.cell? ⟨w.heap.size, 10, none⟩ = some (.slice na n nc) := hB.now.2.1.cell 10
   have v11 : yw.cell? ⟨w.heap.size, 11, none⟩ = some (.slice ta tn tc) := hB.now.2.1.cell 11
   go_simp
   exact hK.out _ _ ⟨hB, rfl, Nat.le_refl _, .inl (Below.refl _ _), fun h => absurd h (by decide)⟩
 refine Stps2.cons (o := _) ?_ ?_
 · intro ac yw hsz hold hB hp K hK
   have e4 := hp 4 (by decide)
   have t10 : ac.tmps[10]? = some (.agg #[.bool ch, .int .i64 more, .int .i64 (d 0), .int .i64 (d 1), .int .i64 (d 2), .int .i64 (d 3), .int .i64 (d 4), .int .i64 (d 5), .int .i64 (d 6), .int .i64 (d 7), .slice na n nc, .slice ta tn tc]) := (List.cons.inj e4).1
   clear hold hp hsz e4
   go_simp
   (go_at_call 52; (with_reducible refine (RU.out _ hB.now.2.2.2.1).mono ?_); rintro e wz ⟨x5, c5, rfl, h5_0, hbz⟩)
   exact hK.out _ _ ⟨hB.go hbz, Exists.intro x5 (Exists.intro c5 (And.intro rfl h5_0)), hbz.size, .inl hbz, fun h => absurd h (by decide)⟩
 refine Stps2.cons (o := _) ?_ ?_
 · intro ac yw hsz hold hB hp K hK
   obtain ⟨x1_1, c1_1, e1, g1_0⟩ := hp 1 (by decide)
   have t7 : ac.tmps[7]? = some (.slice x1_1 r c1_1) := (List.cons.inj e1).1
   have e3 := hp 3 (by decide)
   have t9 : ac.tmps[9]? = some (.bool ch) := (List.cons.inj e3).1
   obtain ⟨x5_5, c5_5, e5, g5_0⟩ := hp 5 (by decide)
   have t11 : ac.tmps[11]? = some (.slice x5_5 tn c5_5) := (List.cons.inj e5).1
   clear hold hp hsz e1 e3 e5
   go_simp
   exact hK.out _ _ ⟨hB, Exists.intro x1_1 (Exists.intro c1_1 (Exists.intro x5_5 (Exists.intro c5_5 (And.intro rfl (And.intro g1_0 g5_0))))), Nat.le_refl _, .inl (Below.refl _ _), fun h => absurd h (by decide)⟩
 refine Stps2.cons (o := _) ?_ ?_
 · intro ac yw hsz hold hB hp K hK
   clear hold hp hsz
   have hk0 := hB.now.1.lt
   have hsl := Row.new yw 26 #[.slice none 0 0, .bool false, .slice none 0 0, .slice none 0 0]
   have hbz : Below yw.heap.size yw (yw.alloc (.cells #[.slice none 0 0, .bool false, .slice none 0 0, .slice none 0 0] 26)) /\ yw.heap.size < (yw.alloc (.cells #[.slice none 0 0, .bool false, .slice none 0 0, .slice none 0 0] 26)).heap.size := ⟨(Below.refl _ _).alloc (Nat.le_refl _) _, by simp⟩
   go_simp
   exact hK.out _ _ ⟨hB.alloc _, Exists.intro yw.heap.size (And.intro rfl (And.intro hsl hk0)), Nat.le_of_lt hbz.2, .inl hbz.1, fun _ => ⟨_, rfl, Nat.le_refl _, hbz.2⟩⟩
 exact Stps2.nil _
end Go.Proofs.YtnpoakaffafdiaaGreatDoor
namespace Go.Proofs.YtnpoakaffafdiaaGreatDoor
open Go.RowKit
theorem RRow.one {w : World} {a : Option Addr} {n c : Nat} {m : Bool} {a2 : Option Addr} {n2 c2 : Nat} {P : Int} {Q : Nat} (h : RatAt w a n c m a2 n2 c2 P Q) (t : TypeId) : RRow (w.alloc (.cells #[.slice a n c, .bool m, .slice a2 n2 c2] t)) (some ⟨w.heap.size, 0, none⟩) 1 1 (fun _ => P) (fun _ => Q) := by
 have hR := Row.new w t #[.slice a n c, .bool m, .slice a2 n2 c2]
 refine ⟨Nat.le_refl _, by unfold maxLen; omega, .inr ⟨_, 0, rfl, by simp, fun j hj => ?_⟩⟩
 obtain rfl : j = 0 := by omega
 exact ⟨a, n, c, m, a2, n2, c2, hR.cell 0, hR.cell 1, hR.cell 2, h.below ((Below.refl _ _).alloc (Nat.le_refl _) _)⟩
theorem KRow.one' (w : World) (ki : IntKind) (x : Int) (t : TypeId) : KRow (w.alloc (.cells #[.int ki x] t)) ki (some ⟨w.heap.size, 0, none⟩) 1 1 (fun _ => x) := by
 refine ⟨Nat.le_refl _, by unfold maxLen; omega, .inr ⟨_, 0, rfl, by simp, fun j hj => ?_⟩⟩
 obtain rfl : j = 0 := by omega
 exact (Row.new w t #[.int ki x]).cell 0
theorem sh_none : (shB (fun _ => (0 : Int)) 0 && decide (itm (fun _ => (0 : Int)) 0 = ((1 : Nat) : Int))) = true := by decide
theorem In64.none (f : Nat -> Int) : In64 f 0 := fun _ h => absurd h (Nat.not_lt_zero _)
theorem NumArr.row {w : World} {cs : Array Value} {f : Nat -> Int} {r n : Nat} {fP : Nat -> Int} {fQ : Nat -> Nat} (h : NumArr w cs f r n fP fQ) {g k : Nat} {t : TypeId} {ch : Bool} {more : Int} {d : Nat -> Int} {na : Option Addr} {nn nc : Nat} {ta : Option Addr} {tn tc : Nat} (hr : Row w k t (arrC ch more d na nn nc ta tn tc)) (hg : k = g) (cs' : Array Value) : NumArr (w.setRow g cs') cs f r n fP fQ := by
 subst hg
 obtain ⟨a, c, h1, h2⟩ := h
 exact ⟨a, c, h1, h2.away (Row.noLimb hr) (RRow.ne h2 hr) (Far.setRow _ _ _)⟩
theorem ChrArr.row {w : World} {cs : Array Value} {f : Nat -> Int} {r n : Nat} {g : Nat -> Int} (h : ChrArr w cs f r n g) {k : Nat} {t : TypeId} {ch : Bool} {more : Int} {d : Nat -> Int} {na : Option Addr} {nn nc : Nat} {ta : Option Addr} {tn tc : Nat} (hr : Row w k t (arrC ch more d na nn nc ta tn tc)) (cs' : Array Value) : ChrArr (w.setRow k cs') cs f r n g := by
 obtain ⟨a, c, h1, h2⟩ := h
 exact ⟨a, c, h1, h2.away (KRow.ne h2 (by decide) hr) (Far.setRow _ _ _)⟩
theorem zerC_row : zerC = arrC false 0 (fun _ => 0) none 0 0 none 0 0 := rfl
theorem ans_num {w w3 : World} {cs : Array Value} {f : Nat -> Int} {r n : Nat} {fP : Nat -> Int} {fQ : Nat -> Nat} (h : NumArr w3 cs f r n fP fQ) (hb : Below w.heap.size w w3) {k : Nat} {t t' : TypeId} (hr0 : Row w3 k t zerC) (hk : w.heap.size <= k) :
    NumTold1 f r n fP fQ w ((w3.alloc (.cells cs t')).setRow k cs) (.returned (.agg cs)) := by
 have hb' : Below w3.heap.size w3 (w3.alloc (.cells cs t')) := (Below.refl _ _).alloc (Nat.le_refl _) _
 rw [zerC_row] at hr0
 exact ⟨cs, rfl, (h.below hb').row (hr0.below hb') rfl cs, below_put (hb.trans (hb'.mono hb.size)) hk _⟩
theorem arrNum_any (a : Option Addr) (n c : Nat) (m : Bool) (a2 : Option Addr) (n2 c2 : Nat) (P : Int) (Q : Nat) (w : World) (h : RatAt w a n c m a2 n2 c2 P Q) :
    Calls Tryz.prog 87 #[.agg #[.slice a n c, .bool m, .slice a2 n2 c2]] w fun e w' => NumTold1 (fun _ => 0) 0 1 (fun _ => P) (fun _ => Q) w w' e := by
 have NU := Lib.hid (fun la lc wz (h2 : RRow wz la 1 lc (fun _ => P) (fun _ => Q)) => nums_any none 0 0 (fun _ => 0) la 1 lc (fun _ => P) (fun _ => Q) wz (KRow.nought _ _ _ _ (Nat.zero_le _) _) (In64.none _) h2 (by omega))
 rw [sh_none] at NU
 unfold NumsTold at NU
 have BB := Lib.hid (((((Bag.start w).rat h).alloc (.cells #[.slice a n c, .bool m, .slice a2 n2 c2] 60)).newRow zerC 36))
 have HR := Lib.hid (RRow.one BB.out.now.2.1 60)
 have BB := Lib.hid (BB.out.alloc (.cells #[.slice a n c, .bool m, .slice a2 n2 c2] 60))
 simp only [World.size_alloc] at BB HR
 clear h
 go_enter Tryz.func87, Tryz.ntmps87
 go_wp2_with fail
 go_at_call 53
 (with_reducible refine (NU.out _ _ _ ?_).mono ?_)
 · exact HR.out
 rintro e w3 ⟨cs, rfl, hcs, hb3⟩
 rw [if_pos trivial] at hcs
 have B3 := BB.out.go hb3
 have HE := Lib.hid (ans_num (t' := 36) hcs B3.below B3.now.1 (Nat.le_succ _))
 obtain ⟨na, nc, rfl, _⟩ := hcs
 have HR1 := Lib.hid (Row.new w3 36 (arrC false (((0 : Nat) : Int) - 1) (dm (fun _ => 0) 0) na 1 nc none 0 0))
 have HR0 := Lib.hid (B3.now.1.below ((Below.refl _ _).alloc (Nat.le_refl _) (.cells (arrC false (((0 : Nat) : Int) - 1) (dm (fun _ => 0) 0) na 1 nc none 0 0) 36)))
 clear hb3 B3
 unfold arrC
 go_wp2_with (first
  | (refine ld_arr rfl (.tmp 3) rfl w3.heap.size rfl HR1.out ?_)
  | (refine st_arr rfl (.tmp 2) (.tmp 11) rfl (w.heap.size + 1) rfl _ _ _ _ _ _ _ _ _ rfl HR0.out rfl ?_))
 exact bodyPost_ret (res_arr Tryz.results87 rfl (HR0.out.put _) rfl) rfl HE.out
theorem arrInt_any (X : Int) (w : World) (h : -9223372036854775808 <= X /\ X <= 9223372036854775807) :
    Calls Tryz.prog 37 #[.int .i64 X] w fun e w' => NumTold1 (fun _ => 0) 0 1 (fun _ => X) (fun _ => 1) w w' e := by
 have FR := Lib.hid (fun wz => ratFrom_any X wz h)
 unfold RatTold at FR
 have NM := Lib.hid (fun a n c m a2 n2 c2 wz h => arrNum_any a n c m a2 n2 c2 X 1 wz h)
 unfold NumTold1 at NM
 have BB := Lib.hid ((Bag.start w).newRow zerC 36)
 clear h
 go_enter Tryz.func37, Tryz.ntmps37
 go_wp2_with fail
 go_at_call 33
 (with_reducible refine (FR.out _).mono ?_)
 rintro e w2 ⟨a2, n2, c2, m2, a3, n3, c3, rfl, hr2, hb2⟩
 have BB := Lib.hid (BB.out.go hb2)
 have HR := Lib.hid hr2
 clear hb2 hr2
 go_wp2_with fail
 go_at_call 87
 (with_reducible refine (NM.out _ _ _ _ _ _ _ _ HR.out).mono ?_)
 rintro e w3 ⟨cs, rfl, hcs, hb3⟩
 have B3 := BB.out.go hb3
 have hz := B3.now.1
 rw [zerC_row] at hz
 have HE : Hid (NumTold1 (fun _ => 0) 0 1 (fun _ => X) (fun _ => 1) w (w3.setRow w.heap.size cs) (.returned (.agg cs))) := Lib.hid ⟨cs, rfl, hcs.row hz rfl cs, below_put B3.below (Nat.le_refl _) _⟩
 have HZ := Lib.hid B3.now.1
 obtain ⟨na, nc, rfl, _⟩ := hcs
 clear hb3 B3 hz
 unfold arrC
 go_wp2_with (refine st_arr rfl (.tmp 2) (.tmp 5) rfl w.heap.size rfl _ _ _ _ _ _ _ _ _ rfl HZ.out rfl ?_)
 exact bodyPost_ret (res_arr Tryz.results37 rfl (HZ.out.put _) rfl) rfl HE.out
theorem plainN_any (cs : Array Value) (f : Nat -> Int) (r n : Nat) (fP : Nat -> Int) (fQ : Nat -> Nat) (w : World) (hr : r <= 8) (h : NumArr w cs f r n fP fQ) (hn : n <= 1000000) (hQ : ∀ j, j < n -> 0 < fQ j) (K : Nat) (hK : K <= 100000) (h1 : ∀ j, j < n -> (fP j).natAbs < 4294967296 ^ K) (h2 : ∀ j, j < n -> fQ j < 4294967296 ^ K) :
    Calls Tryz.prog 47 #[.agg cs] w fun e w' => ∃ cs', e = .returned (.agg cs') /\ PlnAt w' cs' f r false (fun _ => 0) 0 (fun j => rB (fP j)) (fun j => rS (fP j)) (fun j => str (dec (fQ j))) n /\ Below w.heap.size w w' := by
 obtain ⟨na, nc, rfl, hq⟩ := h
 exact plain_any false f r na n nc none 0 0 fP fQ (fun _ => 0) w hr hq (KRow.nought _ _ _ _ (Nat.zero_le _) _) hn (by omega) hQ K hK h1 h2
theorem plainC_any (cs : Array Value) (f : Nat -> Int) (r n : Nat) (g : Nat -> Int) (w : World) (hr : r <= 8) (h : ChrArr w cs f r n g) (hn : n <= 1000000) :
    Calls Tryz.prog 47 #[.agg cs] w fun e w' => ∃ cs', e = .returned (.agg cs') /\ PlnAt w' cs' f r true g n (fun _ => rB 0) (fun _ => rS 0) (fun _ => str (dec 1)) 0 /\ Below w.heap.size w w' := by
 obtain ⟨na, nc, rfl, hq⟩ := h
 exact plain_any true f r none 0 0 na n nc (fun _ => 0) (fun _ => 1) g w hr (RRow.nought _ _ _ (Nat.zero_le _) _ _) hq (by omega) hn (fun _ h => absurd h (Nat.not_lt_zero _)) 1 (by omega) (fun _ h => absurd h (Nat.not_lt_zero _)) (fun _ h => absurd h (Nat.not_lt_zero _))
theorem r5Runes_any (a : Option Addr) (n c : Nat) (f : Nat -> Int) (a2 : Option Addr) (n2 c2 : Nat) (g : Nat -> Int) (w : World) (h : KRow w .i32 a n c f) (h2 : KRow w .i32 a2 n2 c2 g) :
    Calls Tryz.prog 102 #[.slice a n c, .slice a2 n2 c2] w fun e w' => SameTold (decide (n = n2) && sameB f g n) w w' e := by
 have hl := h.len
 have hl2 := h2.len
 have H1 := Lib.hid h
 have H2 := Lib.hid h2
 clear h h2
 by_cases hn : n = n2
 · subst hn
   rw [decide_eq_true rfl, Bool.true_and]
   have dn : ((n : Int) != n) = false := bne_self_eq_false _
   go_enter Tryz.func102, Tryz.ntmps102
   go_wp2
   go_loopw [5] (fun i wr => ∃ k : Nat, k <= n /\ i = .int .i64 k /\ Hid (Below w.heap.size w wr /\ sameB f g k = true)) (fun i _ => n - (intOf i).toNat)
   case atStart => exact ⟨0, by omega, rfl, Below.refl _ _, rfl⟩
   case round =>
    obtain ⟨k, hk, rfl, hrel⟩ := hrel
    obtain ⟨hbl, hsm⟩ := hrel.out
    by_cases hlt : k < n
    · obtain ⟨b, off, rfl, hb, hc⟩ := (H1.out.below hbl).get hlt
      obtain ⟨b2, off2, rfl, hb2, hc2⟩ := (H2.out.below hbl).get hlt
      have HBL := Lib.hid hbl
      have hk0 : (0 : Int) <= k := by omega
      have hk1 : (k : Int) < n := by omega
      have hk2 : (k : Int) <= n := by omega
      by_cases hq : f k = g k
      · have hsm2 : Hid (sameB f g (k + 1) = true) := by show (sameB f g k && _) = true; rw [hsm, decide_eq_true hq]; rfl
        have hne : (f k != g k) = false := by rw [hq]; exact bne_self_eq_false _
        clear hbl hsm
        rw [← hq] at hc2
        have hne : (f k != f k) = false := bne_self_eq_false _
        generalize f k = x at *
        clear hq
        go_wp2_with fail
        go_quiet (fail)
        have HBE : Hid (Below w.heap.size w (wr.drewN nq) /\ sameB f g (k + 1) = true) := ⟨below_drewN HBL.out nq, hsm2.out⟩
        go_wp2
        go_roundw
        case rel => exact ⟨k + 1, by omega, by go_num, HBE.out⟩
        case measure => simp [intOf]; omega
      · have hno : sameB f g n = false := by
          cases hx : sameB f g n with
          | false => rfl
          | true => exact absurd ((sameB_iff.1 hx) k hlt) hq
        have HN := Lib.hid hno
        have hne : (f k != g k) = true := bne_iff_ne.2 hq
        clear hbl hsm hno
        generalize f k = x at *
        generalize g k = y at *
        clear hq
        go_wp2_with fail
        go_quiet (fail)
        have HBE : Hid (SameTold (sameB f g n) w (wr.drewN nq) (.returned (.bool false))) := ⟨by rw [HN.out], below_drewN HBL.out nq⟩
        go_wp2
        go_ret
        exact HBE.out
    · obtain rfl : k = n := by omega
      have HE : Hid (SameTold (sameB f g k) w wr (.returned (.bool true))) := ⟨by rw [hsm], hbl⟩
      clear hbl hsm
      go_wp2
      go_ret
      exact HE.out
 · rw [decide_eq_false hn, Bool.false_and]
   have dn : ((n : Int) != n2) = true := bne_iff_ne.2 (by omega)
   have HE : Hid (SameTold false w w (.returned (.bool false))) := ⟨rfl, Below.refl _ _⟩
   clear hn
   go_enter Tryz.func102, Tryz.ntmps102
   go_wp2
   go_ret
   exact HE.out
def nsB (fB : Nat -> Bool) (fS fT : Nat -> ByteArray) (gB : Nat -> Bool) (gS gT : Nat -> ByteArray) : Nat -> Bool
 | 0 => true
 | k + 1 => nsB fB fS fT gB gS gT k && (decide (fB k = gB k) && (decide (fS k = gS k) && decide (fT k = gT k)))
theorem nsB_iff {fB : Nat -> Bool} {fS fT : Nat -> ByteArray} {gB : Nat -> Bool} {gS gT : Nat -> ByteArray} {n : Nat} : nsB fB fS fT gB gS gT n = true ↔ ∀ j, j < n -> fB j = gB j /\ fS j = gS j /\ fT j = gT j := by
 induction n with
 | zero => exact ⟨fun _ j h => absurd h (Nat.not_lt_zero _), fun _ => rfl⟩
 | succ n ih =>
  show (nsB fB fS fT gB gS gT n && _) = true ↔ _
  rw [Bool.and_eq_true, Bool.and_eq_true, Bool.and_eq_true, decide_eq_true_eq, decide_eq_true_eq, decide_eq_true_eq, ih]
  constructor
  · rintro ⟨h1, h2, h3, h4⟩ j hj
    rcases Nat.lt_or_ge j n with h | h
    · exact h1 j h
    · obtain rfl : j = n := by omega
      exact ⟨h2, h3, h4⟩
  · intro h
    exact ⟨fun j hj => h j (by omega), h n (by omega)⟩
def plB (ch ch' : Bool) (r r' : Nat) (S S' : Nat -> Int) (tn tn' : Nat) (g g' : Nat -> Int) (nn nn' : Nat) (fB : Nat -> Bool) (fS fT : Nat -> ByteArray) (gB : Nat -> Bool) (gS gT : Nat -> ByteArray) : Bool :=
 decide (ch = ch') && ((decide (r = r') && sameB S S' r) && ((decide (tn = tn') && sameB g g' tn) && (decide (nn = nn') && nsB fB fS fT gB gS gT nn)))
theorem toList_ne {a b : ByteArray} (h : a ≠ b) : ¬ a.toList = b.toList := fun e => h (by rw [ByteArray.toList_eq, ByteArray.toList_eq] at e; exact ByteArray.ext (Array.toList_inj.1 e))
theorem ne3 {u1 v1 : Bool} {u2 v2 u3 v3 : ByteArray} (h : ¬ (u1 = v1 /\ u2 = v2 /\ u3 = v3)) : (u1 = true /\ v1 = false) ∨ (u1 = false /\ v1 = true) ∨ (u1 = v1 /\ ¬ u2.toList = v2.toList) ∨ (u1 = v1 /\ u2 = v2 /\ ¬ u3.toList = v3.toList) := by
 cases u1 <;> cases v1
 · by_cases h2 : u2 = v2
   · exact .inr (.inr (.inr ⟨rfl, h2, toList_ne fun h3 => h ⟨rfl, h2, h3⟩⟩))
   · exact .inr (.inr (.inl ⟨rfl, toList_ne h2⟩))
 · exact .inr (.inl ⟨rfl, rfl⟩)
 · exact .inl ⟨rfl, rfl⟩
 · by_cases h2 : u2 = v2
   · exact .inr (.inr (.inr ⟨rfl, h2, toList_ne fun h3 => h ⟨rfl, h2, h3⟩⟩))
   · exact .inr (.inr (.inl ⟨rfl, toList_ne h2⟩))
theorem pl_cells {w : World} {k : Nat} {t : TypeId} {sa : Option Addr} {sn sc : Nat} {ch : Bool} {ta : Option Addr} {tn tc : Nat} {na : Option Addr} {nn nc : Nat} (h : Row w k t #[.slice sa sn sc, .bool ch, .slice ta tn tc, .slice na nn nc]) :
    w.cell? ⟨k, 0, none⟩ = some (.slice sa sn sc) /\ w.cell? ⟨k, 1, none⟩ = some (.bool ch) /\ w.cell? ⟨k, 2, none⟩ = some (.slice ta tn tc) /\ w.cell? ⟨k, 3, none⟩ = some (.slice na nn nc) := ⟨h.cell 0, h.cell 1, h.cell 2, h.cell 3⟩
theorem r6PSame_any (cs cs' : Array Value) (S : Nat -> Int) (r : Nat) (ch : Bool) (g : Nat -> Int) (tn : Nat) (fB : Nat -> Bool) (fS fT : Nat -> ByteArray) (nn : Nat) (S' : Nat -> Int) (r' : Nat) (ch' : Bool) (g' : Nat -> Int) (tn' : Nat) (gB : Nat -> Bool) (gS gT : Nat -> ByteArray) (nn' : Nat)
    (w : World) (h : PlnAt w cs S r ch g tn fB fS fT nn) (h' : PlnAt w cs' S' r' ch' g' tn' gB gS gT nn') :
    Calls Tryz.prog 46 #[.agg cs, .agg cs'] w fun e w' => SameTold (plB ch ch' r r' S S' tn tn' g g' nn nn' fB fS fT gB gS gT) w w' e := by
 obtain ⟨sa, sc, ta, tc, na, nc, rfl, h1, h2, h3⟩ := h
 obtain ⟨sa', sc', ta', tc', na', nc', rfl, h1', h2', h3'⟩ := h'
 have IS := Lib.hid (fun wz p q => r6Same_any sa r sc S sa' r' sc' S' wz p q)
 have RS := Lib.hid (fun wz p q => r5Runes_any ta tn tc g ta' tn' tc' g' wz p q)
 have BB := Lib.hid (((((((((Bag.start w).krow h1).krow h2).qrow h3).krow h1').krow h2').qrow h3').newRow (plC sa r sc ch ta tn tc na nn nc) 26).newRow (plC sa' r' sc' ch' ta' tn' tc' na' nn' nc') 26)
 simp only [World.size_alloc] at BB
 have hl := h3.len
 have hl' := h3'.len
 unfold SameTold at IS RS
 unfold plC at BB
 unfold plC
 clear h1 h2 h3 h1' h2' h3'
 by_cases hc : ch = ch'
 · subst hc
   have hp1 : plB ch ch r r' S S' tn tn' g g' nn nn' fB fS fT gB gS gT = ((decide (r = r') && sameB S S' r) && ((decide (tn = tn') && sameB g g' tn) && (decide (nn = nn') && nsB fB fS fT gB gS gT nn))) := by unfold plB; rw [decide_eq_true rfl, Bool.true_and]
   rw [hp1]
   clear hp1
   cases hx : (decide (r = r') && sameB S S' r) with
   | false =>
    rw [hx] at IS
    rw [Bool.false_and]
    clear hx
    go_enter Tryz.func46, Tryz.ntmps46
    go_wp2_with fail
    go_at_call 56
    (with_reducible refine (IS.out _ BB.out.now.2.2.2.2.2.2.2.1 BB.out.now.2.2.2.2.1).mono ?_)
    rintro e w2 ⟨rfl, hb2⟩
    have HE := Lib.hid (BB.out.go hb2).below
    clear hb2
    go_wp2
    go_ret
    exact ⟨rfl, HE.out⟩
   | true =>
    rw [hx] at IS
    rw [Bool.true_and]
    clear hx
    cases hx : (decide (tn = tn') && sameB g g' tn) with
    | false =>
     rw [hx] at RS
     rw [Bool.false_and]
     clear hx
     go_enter Tryz.func46, Tryz.ntmps46
     go_wp2_with fail
     go_at_call 56
     (with_reducible refine (IS.out _ BB.out.now.2.2.2.2.2.2.2.1 BB.out.now.2.2.2.2.1).mono ?_)
     rintro e w2 ⟨rfl, hb2⟩
     have BB := Lib.hid (BB.out.go hb2)
     clear hb2
     obtain ⟨x0, x1, x2, x3⟩ := pl_cells BB.out.now.2.1
     obtain ⟨y0, y1, y2, y3⟩ := pl_cells BB.out.now.1
     go_wp2_with fail
     go_at_call 102
     (with_reducible refine (RS.out _ BB.out.now.2.2.2.2.2.2.1 BB.out.now.2.2.2.1).mono ?_)
     rintro e w3 ⟨rfl, hb3⟩
     have HE := Lib.hid (BB.out.go hb3).below
     clear hb3
     go_wp2
     go_ret
     exact ⟨rfl, HE.out⟩
    | true =>
     rw [hx] at RS
     rw [Bool.true_and]
     clear hx
     by_cases hn : nn = nn'
     · subst hn
       rw [decide_eq_true rfl, Bool.true_and]
       have dn : ((nn : Int) != nn) = false := bne_self_eq_false _
       go_enter Tryz.func46, Tryz.ntmps46
       go_wp2_with fail
       go_at_call 56
       (with_reducible refine (IS.out _ BB.out.now.2.2.2.2.2.2.2.1 BB.out.now.2.2.2.2.1).mono ?_)
       rintro e w2 ⟨rfl, hb2⟩
       have BB := Lib.hid (BB.out.go hb2)
       clear hb2
       obtain ⟨x0, x1, x2, x3⟩ := pl_cells BB.out.now.2.1
       obtain ⟨y0, y1, y2, y3⟩ := pl_cells BB.out.now.1
       go_wp2_with fail
       go_at_call 102
       (with_reducible refine (RS.out _ BB.out.now.2.2.2.2.2.2.1 BB.out.now.2.2.2.1).mono ?_)
       rintro e w3 ⟨rfl, hb3⟩
       have BB := Lib.hid (BB.out.go hb3)
       clear hb3
       obtain ⟨x0, x1, x2, x3⟩ := pl_cells BB.out.now.2.1
       obtain ⟨y0, y1, y2, y3⟩ := pl_cells BB.out.now.1
       have H0 := Lib.hid BB.out.below
       go_wp2_with fail
       go_loopw [5] (fun i wr => ∃ k : Nat, k <= nn /\ i = .int .i64 k /\ Hid (Below w3.heap.size w3 wr /\ nsB fB fS fT gB gS gT k = true)) (fun i _ => nn - (intOf i).toNat)
       case atStart => exact ⟨0, by omega, rfl, Below.refl _ _, rfl⟩
       case round =>
        obtain ⟨k, hk, rfl, hrel⟩ := hrel
        obtain ⟨hbl, hsm⟩ := hrel.out
        have B4 := Lib.hid (BB.out.go hbl)
        clear x0 x1 x2 x3 y0 y1 y2 y3
        obtain ⟨x0, x1, x2, x3⟩ := pl_cells B4.out.now.2.1
        obtain ⟨y0, y1, y2, y3⟩ := pl_cells B4.out.now.1
        by_cases hlt : k < nn
        · obtain ⟨b, off, rfl, hb, c1, c2, c3⟩ := B4.out.now.2.2.2.2.2.1.get hlt
          obtain ⟨b2, off2, rfl, hb2, d1, d2, d3⟩ := B4.out.now.2.2.1.get hlt
          have HBL := Lib.hid hbl
          by_cases hq : fB k = gB k /\ fS k = gS k /\ fT k = gT k
          · have hsm2 : Hid (nsB fB fS fT gB gS gT (k + 1) = true) := by show (nsB fB fS fT gB gS gT k && _) = true; rw [hsm, decide_eq_true hq.1, decide_eq_true hq.2.1, decide_eq_true hq.2.2]; rfl
            rw [← hq.1] at d1
            rw [← hq.2.1] at d2
            rw [← hq.2.2] at d3
            clear hq hbl hsm
            generalize fB k = u1 at *
            generalize fS k = u2 at *
            generalize fT k = u3 at *
            go_wp2_with fail
            go_quiet (fail)
            have HBE : Hid (Below w3.heap.size w3 (wr.drewN nq) /\ nsB fB fS fT gB gS gT (k + 1) = true) := ⟨below_drewN HBL.out nq, hsm2.out⟩
            go_wp2
            go_roundw
            case rel => exact ⟨k + 1, by omega, by go_num, HBE.out⟩
            case measure => simp [intOf]; omega
          · have hno : nsB fB fS fT gB gS gT nn = false := by
              cases hx : nsB fB fS fT gB gS gT nn with
              | false => rfl
              | true => exact absurd ((nsB_iff.1 hx) k hlt) hq
            have HN := Lib.hid hno
            clear hbl hsm hno
            generalize fB k = u1 at *
            generalize fS k = u2 at *
            generalize fT k = u3 at *
            generalize gB k = v1 at *
            generalize gS k = v2 at *
            generalize gT k = v3 at *
            rcases ne3 hq with ⟨rfl, rfl⟩ | ⟨rfl, rfl⟩ | ⟨rfl, hd⟩ | ⟨rfl, rfl, hd⟩
            all_goals
             clear hq
             go_wp2_with fail
             go_quiet (fail)
             have HBE : Hid (SameTold (nsB fB fS fT gB gS gT nn) w (wr.drewN nq) (.returned (.bool false))) := ⟨by rw [HN.out], below_drewN B4.out.below nq⟩
             go_wp2
             go_ret
             exact HBE.out
        · obtain rfl : k = nn := by omega
          have HE : Hid (SameTold (nsB fB fS fT gB gS gT k) w wr (.returned (.bool true))) := ⟨by rw [hsm], B4.out.below⟩
          clear hbl hsm
          go_wp2
          go_ret
          exact HE.out
     · rw [decide_eq_false hn, Bool.false_and]
       have dn : ((nn : Int) != nn') = true := bne_iff_ne.2 (by omega)
       clear hn
       go_enter Tryz.func46, Tryz.ntmps46
       go_wp2_with fail
       go_at_call 56
       (with_reducible refine (IS.out _ BB.out.now.2.2.2.2.2.2.2.1 BB.out.now.2.2.2.2.1).mono ?_)
       rintro e w2 ⟨rfl, hb2⟩
       have BB := Lib.hid (BB.out.go hb2)
       clear hb2
       obtain ⟨x0, x1, x2, x3⟩ := pl_cells BB.out.now.2.1
       obtain ⟨y0, y1, y2, y3⟩ := pl_cells BB.out.now.1
       go_wp2_with fail
       go_at_call 102
       (with_reducible refine (RS.out _ BB.out.now.2.2.2.2.2.2.1 BB.out.now.2.2.2.1).mono ?_)
       rintro e w3 ⟨rfl, hb3⟩
       have BB := Lib.hid (BB.out.go hb3)
       clear hb3
       obtain ⟨x0, x1, x2, x3⟩ := pl_cells BB.out.now.2.1
       obtain ⟨y0, y1, y2, y3⟩ := pl_cells BB.out.now.1
       have HE := Lib.hid BB.out.below
       go_wp2
       go_ret
       exact ⟨rfl, HE.out⟩
 · have hb : plB ch ch' r r' S S' tn tn' g g' nn nn' fB fS fT gB gS gT = false := by unfold plB; rw [decide_eq_false hc, Bool.false_and]
   rw [hb]
   have HE := Lib.hid BB.out.below
   clear hb
   cases ch <;> cases ch'
   · exact absurd rfl hc
   · clear hc
     go_enter Tryz.func46, Tryz.ntmps46
     go_wp2
     go_ret
     exact ⟨rfl, HE.out⟩
   · clear hc
     go_enter Tryz.func46, Tryz.ntmps46
     go_wp2
     go_ret
     exact ⟨rfl, HE.out⟩
   · exact absurd rfl hc
theorem wp_capture {P : Program} {c : Code} {Q : Exit -> Act -> World -> Prop} {a : Act} {w : World} (h : ∀ R : Exit -> Act -> World -> Prop, (∀ e a w, R e a w = Q e a w) -> Code.wp P c R a w) : Code.wp P c Q a w := h Q (fun _ _ _ => rfl)
end Go.Proofs.YtnpoakaffafdiaaGreatDoor
namespace Go.Proofs.YtnpoakaffafdiaaGreatDoor
open Go.RowKit
attribute [local go_sem ↓] Go.wp_at_zero Go.wp_at_succ
def RatsAt (w : World) (sa : Option Addr) (n c : Nat) (fP : Nat -> Int) (fQ : Nat -> Nat) : Prop := n <= c /\ n <= 1000 /\ (n = 0 ∨ ∃ b off, sa = some ⟨b, off, none⟩ /\ b < w.heap.size /\
 ∀ j, j < n -> ∃ a' n' c' m' a2' n2' c2', w.cell? ⟨b, off + j * 3, none⟩ = some (.slice a' n' c') /\ w.cell? ⟨b, off + j * 3 + 1, none⟩ = some (.bool m') /\ w.cell? ⟨b, off + j * 3 + 2, none⟩ = some (.slice a2' n2' c2') /\ RatAt w a' n' c' m' a2' n2' c2' (fP j) (fQ j))
theorem RatsAt.below {w w' : World} {sa : Option Addr} {n c : Nat} {fP : Nat -> Int} {fQ : Nat -> Nat} (h : RatsAt w sa n c fP fQ) (hb : Below w.heap.size w w') : RatsAt w' sa n c fP fQ := by
 obtain ⟨h0, h1, h2⟩ := h
 refine ⟨h0, h1, ?_⟩
 rcases h2 with h2 | ⟨b, off, rfl, hl, hc⟩
 · exact .inl h2
 · refine .inr ⟨b, off, rfl, Nat.lt_of_lt_of_le hl hb.size, fun j hj => ?_⟩
   obtain ⟨a', n', c', m', a2', n2', c2', e1, e2, e3, hr⟩ := hc j hj
   exact ⟨a', n', c', m', a2', n2', c2', (hb.cell (p := ⟨b, _, none⟩) hl).trans e1, (hb.cell (p := ⟨b, _, none⟩) hl).trans e2, (hb.cell (p := ⟨b, _, none⟩) hl).trans e3, hr.below hb⟩
theorem RatsAt.get {w : World} {sa : Option Addr} {n c : Nat} {fP : Nat -> Int} {fQ : Nat -> Nat} (h : RatsAt w sa n c fP fQ) {j : Nat} (hj : j < n) :
    ∃ b off a' n' c' m' a2' n2' c2', sa = some ⟨b, off, none⟩ /\ b < w.heap.size /\ w.cell? ⟨b, off + j * 3, none⟩ = some (.slice a' n' c') /\ w.cell? ⟨b, off + j * 3 + 1, none⟩ = some (.bool m') /\ w.cell? ⟨b, off + j * 3 + 2, none⟩ = some (.slice a2' n2' c2') /\ RatAt w a' n' c' m' a2' n2' c2' (fP j) (fQ j) := by
 obtain ⟨h0, h1, h2⟩ := h
 rcases h2 with h2 | ⟨b, off, rfl, hl, hc⟩
 · omega
 · obtain ⟨a', n', c', m', a2', n2', c2', e⟩ := hc j hj
   exact ⟨b, off, a', n', c', m', a2', n2', c2', rfl, hl, e⟩
theorem RatsAt.nought (w : World) (fP : Nat -> Int) (fQ : Nat -> Nat) : RatsAt w none 0 0 fP fQ := ⟨Nat.le_refl _, by omega, .inl rfl⟩
end Go.Proofs.YtnpoakaffafdiaaGreatDoor
