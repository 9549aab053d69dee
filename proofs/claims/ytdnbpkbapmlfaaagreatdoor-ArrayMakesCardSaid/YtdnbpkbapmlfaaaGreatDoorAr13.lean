/-
  Package array: Num, Int, Char, Text, None, by contract.
-/
import Derived.Test.YtdnbpkbapmlfaaaGreatDoorAr11
namespace Go.Proofs.YtdnbpkbapmlfaaaGreatDoor
open Go.RowKit

/-- What answers an array of characters. -/
def ChrTold1 (f : Nat → Int) (r n : Nat) (g : Nat → Int) (w w' : World) (e : Ending) : Prop := ∃ cs, e = .returned (.agg cs) ∧ ChrArr w' cs f r n g ∧ Below w.heap.size w w'
theorem RRow.one {w : World} {a : Option Addr} {n c : Nat} {m : Bool} {a2 : Option Addr} {n2 c2 : Nat} {P : Int} {Q : Nat} (h : RatAt w a n c m a2 n2 c2 P Q) (t : TypeId) : RRow (w.alloc (.cells #[.slice a n c, .bool m, .slice a2 n2 c2] t)) (some ⟨w.heap.size, 0, none⟩) 1 1 (fun _ => P) (fun _ => Q) := by
  have hR := Row.new w t #[.slice a n c, .bool m, .slice a2 n2 c2]
  refine ⟨Nat.le_refl _, by unfold maxLen; omega, .inr ⟨_, 0, rfl, by simp, fun j hj => ?_⟩⟩
  obtain rfl : j = 0 := by omega
  exact ⟨a, n, c, m, a2, n2, c2, hR.cell 0, hR.cell 1, hR.cell 2, h.below ((Below.refl _ _).alloc (Nat.le_refl _) _)⟩
theorem KRow.one' (w : World) (ki : IntKind) (x : Int) (t : TypeId) : KRow (w.alloc (.cells #[.int ki x] t)) ki (some ⟨w.heap.size, 0, none⟩) 1 1 (fun _ => x) := by
  refine ⟨Nat.le_refl _, by unfold maxLen; omega, .inr ⟨_, 0, rfl, by simp, fun j hj => ?_⟩⟩
  obtain rfl : j = 0 := by omega
  exact (Row.new w t #[.int ki x]).cell 0
theorem sh_none : (shB (fun _ => (0 : Int)) 0 && decide (itm (fun _ => (0 : Int)) 0 = ((1 : Nat) : Int))) = true := by decide
theorem In64.none (f : Nat → Int) : In64 f 0 := fun _ h => absurd h (Nat.not_lt_zero _)
theorem dm_nought (f : Nat → Int) : dm f 0 = fun _ => 0 := by funext j; unfold dm; rw [if_neg (Nat.not_lt_zero _)]
theorem NumArr.row {w : World} {cs : Array Value} {f : Nat → Int} {r n : Nat} {fP : Nat → Int} {fQ : Nat → Nat} (h : NumArr w cs f r n fP fQ) {g k : Nat} {t : TypeId} {ch : Bool} {more : Int} {d : Nat → Int} {na : Option Addr} {nn nc : Nat} {ta : Option Addr} {tn tc : Nat} (hr : Row w k t (arrC ch more d na nn nc ta tn tc)) (hg : k = g) (cs' : Array Value) : NumArr (w.setRow g cs') cs f r n fP fQ := by
  subst hg
  obtain ⟨a, c, h1, h2⟩ := h
  exact ⟨a, c, h1, h2.away (Row.noLimb hr) (RRow.ne h2 hr) (Far.setRow _ _ _)⟩
theorem ChrArr.row {w : World} {cs : Array Value} {f : Nat → Int} {r n : Nat} {g : Nat → Int} (h : ChrArr w cs f r n g) {k : Nat} {t : TypeId} {ch : Bool} {more : Int} {d : Nat → Int} {na : Option Addr} {nn nc : Nat} {ta : Option Addr} {tn tc : Nat} (hr : Row w k t (arrC ch more d na nn nc ta tn tc)) (cs' : Array Value) : ChrArr (w.setRow k cs') cs f r n g := by
  obtain ⟨a, c, h1, h2⟩ := h
  exact ⟨a, c, h1, h2.away (KRow.ne h2 (by decide) hr) (Far.setRow _ _ _)⟩

theorem zerC_row : zerC = arrC false 0 (fun _ => 0) none 0 0 none 0 0 := rfl
theorem ans_num {w w3 : World} {cs : Array Value} {f : Nat → Int} {r n : Nat} {fP : Nat → Int} {fQ : Nat → Nat} (h : NumArr w3 cs f r n fP fQ) (hb : Below w.heap.size w w3) {k : Nat} {t t' : TypeId} (hr0 : Row w3 k t zerC) (hk : w.heap.size ≤ k) :
    NumTold1 f r n fP fQ w ((w3.alloc (.cells cs t')).setRow k cs) (.returned (.agg cs)) := by
  have hb' : Below w3.heap.size w3 (w3.alloc (.cells cs t')) := (Below.refl _ _).alloc (Nat.le_refl _) _
  rw [zerC_row] at hr0
  exact ⟨cs, rfl, (h.below hb').row (hr0.below hb') rfl cs, below_put (hb.trans (hb'.mono hb.size)) hk _⟩
theorem ans_chr {w w3 : World} {cs : Array Value} {f : Nat → Int} {r n : Nat} {g : Nat → Int} (h : ChrArr w3 cs f r n g) (hb : Below w.heap.size w w3) {k : Nat} {t t' : TypeId} (hr0 : Row w3 k t zerC) (hk : w.heap.size ≤ k) :
    ChrTold1 f r n g w ((w3.alloc (.cells cs t')).setRow k cs) (.returned (.agg cs)) := by
  have hb' : Below w3.heap.size w3 (w3.alloc (.cells cs t')) := (Below.refl _ _).alloc (Nat.le_refl _) _
  rw [zerC_row] at hr0
  exact ⟨cs, rfl, (h.below hb').row (hr0.below hb') cs, below_put (hb.trans (hb'.mono hb.size)) hk _⟩

set_option maxHeartbeats 1600000 in
set_option maxRecDepth 100000 in
theorem arrText_any (a : Option Addr) (n c : Nat) (g : Nat → Int) (w : World) (h : KRow w .i32 a n c g) (hn : n ≤ 4096) :
    Calls Tryz.prog 85 #[.slice a n c] w fun e w' => ChrTold1 (fun _ => (n : Int)) 1 n g w w' e := by
  have hl := h.len
  have NU := Lib.hid (fun la lc wz (h1 : KRow wz .i64 la 1 lc (fun _ => (n : Int))) (h2 : KRow wz .i32 a n c g) => chars_any la 1 lc (fun _ => (n : Int)) a n c g wz h1 (In64.one (by omega) _) h2 (by omega))
  rw [sh_list hn] at NU
  unfold CharsTold at NU
  have BB := Lib.hid (((Bag.start w).krow h).newRow zerC 50)
  have HK := Lib.hid (KRow.one (w.alloc (.cells zerC 50)) n 3)
  have BB := Lib.hid (BB.out.alloc (.cells #[.int .i64 n] 3))
  simp only [World.size_alloc] at BB HK
  clear h
  go_enter Tryz.func85, Tryz.ntmps85
  go_wp2_with fail
  go_at_call 71
  (with_reducible refine (NU.out _ _ _ ?_ ?_).mono ?_)
  · exact HK.out
  · exact BB.out.now.2.1
  rintro e w3 ⟨cs, rfl, hcs, hb3⟩
  rw [if_pos trivial] at hcs
  have B3 := BB.out.go hb3
  have HE := Lib.hid (ans_chr (t' := 50) hcs B3.below B3.now.1 (Nat.le_refl _))
  obtain ⟨na, nc, rfl, _⟩ := hcs
  have HR1 := Lib.hid (Row.new w3 50 (arrC true (((1 : Nat) : Int) - 1) (dm (fun _ => (n : Int)) 1) none 0 0 na n nc))
  have HR0 := Lib.hid (B3.now.1.below ((Below.refl _ _).alloc (Nat.le_refl _) (.cells (arrC true (((1 : Nat) : Int) - 1) (dm (fun _ => (n : Int)) 1) none 0 0 na n nc) 50)))
  clear hb3 B3
  unfold arrC
  go_wp2_with (first
    | (refine ld_arr rfl (.tmp 3) rfl w3.heap.size rfl HR1.out ?_)
    | (refine st_arr rfl (.tmp 2) (.tmp 13) rfl w.heap.size rfl _ _ _ _ _ _ _ _ _ rfl HR0.out rfl ?_))
  exact bodyPost_ret (res_arr Tryz.results85 rfl (HR0.out.put _) rfl) rfl HE.out

set_option maxHeartbeats 1600000 in
set_option maxRecDepth 100000 in
theorem arrNone_any (b : Bool) (w : World) :
    Calls Tryz.prog 47 #[.bool b] w fun e w' => e = .returned (.agg (arrC b 0 (fun _ => 0) none 0 0 none 0 0)) ∧ Below w.heap.size w w' := by
  have HE : Hid (Below w.heap.size w (w.alloc (.cells (arrC b 0 (fun _ => 0) none 0 0 none 0 0) 50))) := Lib.hid ((Below.refl _ _).alloc (Nat.le_refl _) _)
  unfold arrC at HE
  unfold arrC
  go_enter Tryz.func47, Tryz.ntmps47
  go_wp2
  exact bodyPost_ret (res_arr Tryz.results47 rfl (Row.new w 50 #[.bool b, .int .i64 0, .int .i64 0, .int .i64 0, .int .i64 0, .int .i64 0, .int .i64 0, .int .i64 0, .int .i64 0, .int .i64 0, .slice none 0 0, .slice none 0 0]) rfl) rfl ⟨rfl, HE.out⟩

/-- An array as a plain one. -/
theorem plainN_any (cs : Array Value) (f : Nat → Int) (r n : Nat) (fP : Nat → Int) (fQ : Nat → Nat) (w : World) (hr : r ≤ 8) (h : NumArr w cs f r n fP fQ) (hn : n ≤ 1000000) (hQ : ∀ j, j < n → 0 < fQ j) (K : Nat) (hK : K ≤ 100000) (h1 : ∀ j, j < n → (fP j).natAbs < 4294967296 ^ K) (h2 : ∀ j, j < n → fQ j < 4294967296 ^ K) :
    Calls Tryz.prog 24 #[.agg cs] w fun e w' => ∃ cs', e = .returned (.agg cs') ∧ PlnAt w' cs' f r false (fun _ => 0) 0 (fun j => rB (fP j)) (fun j => rS (fP j)) (fun j => str (dec (fQ j))) n ∧ Below w.heap.size w w' := by
  obtain ⟨na, nc, rfl, hq⟩ := h
  exact plain_any false f r na n nc none 0 0 fP fQ (fun _ => 0) w hr hq (KRow.nought _ _ _ _ (Nat.zero_le _) _) hn (by omega) hQ K hK h1 h2
theorem plainC_any (cs : Array Value) (f : Nat → Int) (r n : Nat) (g : Nat → Int) (w : World) (hr : r ≤ 8) (h : ChrArr w cs f r n g) (hn : n ≤ 1000000) :
    Calls Tryz.prog 24 #[.agg cs] w fun e w' => ∃ cs', e = .returned (.agg cs') ∧ PlnAt w' cs' f r true g n (fun _ => rB 0) (fun _ => rS 0) (fun _ => str (dec 1)) 0 ∧ Below w.heap.size w w' := by
  obtain ⟨na, nc, rfl, hq⟩ := h
  exact plain_any true f r none 0 0 na n nc (fun _ => 0) (fun _ => 1) g w hr (RRow.nought _ _ _ (Nat.zero_le _) _ _) hq (by omega) hn (fun _ h => absurd h (Nat.not_lt_zero _)) 1 (by omega) (fun _ h => absurd h (Nat.not_lt_zero _)) (fun _ h => absurd h (Nat.not_lt_zero _))

end Go.Proofs.YtdnbpkbapmlfaaaGreatDoor
