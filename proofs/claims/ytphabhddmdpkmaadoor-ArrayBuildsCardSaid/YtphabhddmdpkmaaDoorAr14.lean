/-
  The document's layer 6: Text, Num, Int, Ints, by contract.
-/
import Derived.Test.YtphabhddmdpkmaaDoorAr13
import Derived.Test.YtphabhddmdpkmaaDoorRr1
namespace Go.Proofs.YtphabhddmdpkmaaDoor
open Go.RowKit

/-- What answers a plain array. -/
def PlnTold (S : Nat → Int) (r : Nat) (ch : Bool) (g : Nat → Int) (tn : Nat) (fB : Nat → Bool) (fS fT : Nat → ByteArray) (nn : Nat) (w w' : World) (e : Ending) : Prop := ∃ cs, e = .returned (.agg cs) ∧ PlnAt w' cs S r ch g tn fB fS fT nn ∧ Below w.heap.size w w'
theorem res_pln {fn : Func} {p : Tmp} {tmps : Array Value} {w : World} {g : Nat} {cs : Array Value} (h : fn.results = #[.cell p 44]) (hp : tmps.getD p undef = .pointer (some ⟨g, 0, none⟩)) (hg : Row w g 44 cs) (hs : cs.size = 4) :
    (results fn tmps).run Tryd.prog w = .ok (.agg cs) w :=
  results_cell_row h tmps w g _ cs (0, 0) _ hp hg Tryd.underlying44 rfl (by rw [show (Tryd.prog.info? 44).map (·.size) = some 4 by kernel_rfl, hs])

set_option maxHeartbeats 1600000 in
set_option maxRecDepth 100000 in
theorem r6Text_any (a : Option Addr) (n c : Nat) (g : Nat → Int) (w : World) (h : KRow w .i32 a n c g) :
    Calls Tryd.prog 10 #[.slice a n c] w fun e w' => ∀ fB fS fT, PlnTold (fun _ => (n : Int)) 1 true g n fB fS fT 0 w w' e := by
  have hl := h.len
  have B0 := ((Bag.start w).krow h).newRow #[.slice (some ⟨w.heap.size + 1, 0, none⟩) 1 1, .bool true, .slice a n c, .slice none 0 0] 44
  have HK := KRow.one (w.alloc (.cells #[.slice (some ⟨w.heap.size + 1, 0, none⟩) 1 1, .bool true, .slice a n c, .slice none 0 0] 44)) n 3
  have B1 := B0.alloc (.cells #[.int .i64 n] 3)
  simp only [World.size_alloc] at B1 HK
  have HE : Hid (Row ((w.alloc (.cells #[.slice (some ⟨w.heap.size + 1, 0, none⟩) 1 1, .bool true, .slice a n c, .slice none 0 0] 44)).alloc (.cells #[.int .i64 n] 3)) w.heap.size 44 #[.slice (some ⟨w.heap.size + 1, 0, none⟩) 1 1, .bool true, .slice a n c, .slice none 0 0] ∧ ∀ fB fS fT, PlnTold (fun _ => (n : Int)) 1 true g n fB fS fT 0 w ((w.alloc (.cells #[.slice (some ⟨w.heap.size + 1, 0, none⟩) 1 1, .bool true, .slice a n c, .slice none 0 0] 44)).alloc (.cells #[.int .i64 n] 3)) (.returned (.agg #[.slice (some ⟨w.heap.size + 1, 0, none⟩) 1 1, .bool true, .slice a n c, .slice none 0 0]))) :=
    ⟨B1.now.1, fun _ _ _ => ⟨_, rfl, ⟨_, _, _, _, _, _, rfl, HK, B1.now.2.1, QRow.nought _ _ _ (Nat.zero_le _) _ _ _⟩, B1.below⟩⟩
  clear h B0 B1 HK
  go_enter Tryd.func10, Tryd.ntmps10
  go_wp2
  exact bodyPost_ret (res_pln Tryd.results10 rfl HE.out.1 rfl) rfl HE.out.2

theorem QRow.one (w : World) (b : Bool) (s t : ByteArray) (T : TypeId) : QRow (w.alloc (.cells #[.bool b, .string s, .string t] T)) (some ⟨w.heap.size, 0, none⟩) 1 1 (fun _ => b) (fun _ => s) (fun _ => t) := by
  have hR := Row.new w T #[.bool b, .string s, .string t]
  refine ⟨Nat.le_refl _, by unfold maxLen; omega, .inr ⟨_, 0, rfl, by simp, fun j hj => ?_⟩⟩
  obtain rfl : j = 0 := by omega
  exact ⟨hR.cell 0, hR.cell 1, hR.cell 2⟩

set_option maxHeartbeats 1600000 in
set_option maxRecDepth 100000 in
theorem r6Num_any (b : Bool) (s t : ByteArray) (w : World) :
    Calls Tryd.prog 35 #[.agg #[.bool b, .string s, .string t]] w fun e w' => ∀ S g, PlnTold S 0 false g 0 (fun _ => b) (fun _ => s) (fun _ => t) 1 w w' e := by
  have B0 := ((Bag.start w).alloc (.cells #[.bool b, .string s, .string t] 68)).newRow #[.slice none 0 0, .bool false, .slice none 0 0, .slice (some ⟨w.heap.size + 1 + 1, 0, none⟩) 1 1] 44
  have HK := QRow.one ((w.alloc (.cells #[.bool b, .string s, .string t] 68)).alloc (.cells #[.slice none 0 0, .bool false, .slice none 0 0, .slice (some ⟨w.heap.size + 1 + 1, 0, none⟩) 1 1] 44)) b s t 68
  have B1 := B0.alloc (.cells #[.bool b, .string s, .string t] 68)
  simp only [World.size_alloc] at B1 HK
  have HE : Hid (Row (((w.alloc (.cells #[.bool b, .string s, .string t] 68)).alloc (.cells #[.slice none 0 0, .bool false, .slice none 0 0, .slice (some ⟨w.heap.size + 1 + 1, 0, none⟩) 1 1] 44)).alloc (.cells #[.bool b, .string s, .string t] 68)) (w.heap.size + 1) 44 #[.slice none 0 0, .bool false, .slice none 0 0, .slice (some ⟨w.heap.size + 1 + 1, 0, none⟩) 1 1]
      ∧ ∀ S g, PlnTold S 0 false g 0 (fun _ => b) (fun _ => s) (fun _ => t) 1 w (((w.alloc (.cells #[.bool b, .string s, .string t] 68)).alloc (.cells #[.slice none 0 0, .bool false, .slice none 0 0, .slice (some ⟨w.heap.size + 1 + 1, 0, none⟩) 1 1] 44)).alloc (.cells #[.bool b, .string s, .string t] 68)) (.returned (.agg #[.slice none 0 0, .bool false, .slice none 0 0, .slice (some ⟨w.heap.size + 1 + 1, 0, none⟩) 1 1]))) :=
    ⟨B1.now.1, fun _ _ => ⟨_, rfl, ⟨_, _, _, _, _, _, rfl, KRow.nought _ _ _ _ (Nat.zero_le _) _, KRow.nought _ _ _ _ (Nat.zero_le _) _, HK⟩, B1.below⟩⟩
  clear B0 B1 HK
  go_enter Tryd.func35, Tryd.ntmps35
  go_wp2
  exact bodyPost_ret (res_pln Tryd.results35 rfl HE.out.1 rfl) rfl HE.out.2

theorem pln4 : (Tryd.prog.info? 44).map (·.size) = some 4 := by kernel_rfl
/-- A plain array loaded, stored, as a whole. -/
theorem ld_pln {ops : Array Oper} {rest : List Oper} {o : Oper} {a : Act} {w : World} {Q : Exit → Act → World → Prop} (hgd : o.guard = none) (x : Operand) (ho : o.op = .load 44 x) (g : Nat) (hx : a.eval x = .pointer (some ⟨g, 0, none⟩))
    {sa : Option Addr} {sn sc : Nat} {ch : Bool} {ta : Option Addr} {tn tc : Nat} {na : Option Addr} {nn nc : Nat} (hg : Row w g 44 (plC sa sn sc ch ta tn tc na nn nc))
    (h : wpList Tryd.prog ops Q rest (a.put o.dst (.agg (plC sa sn sc ch ta tn tc na nn nc))) w) : wpList Tryd.prog ops Q (o :: rest) a w :=
  wpList_load_row hgd _ x ho g hx _ _ (0, 0) _ hg Tryd.underlying44 rfl pln4 h
theorem plC_one (sa : Option Addr) (sn sc : Nat) (ch : Bool) (ta : Option Addr) (tn tc : Nat) (na : Option Addr) (nn nc : Nat) : (plC sa sn sc ch ta tn tc na nn nc).all (·.oneCell') = true := by simp [plC, Value.oneCell']
theorem st_pln {ops : Array Oper} {rest : List Oper} {o : Oper} {a : Act} {w : World} {Q : Exit → Act → World → Prop} (hgd : o.guard = none) (x y : Operand) (ho : o.op = .store 44 x y) (g : Nat) (hx : a.eval x = .pointer (some ⟨g, 0, none⟩))
    (sa : Option Addr) (sn sc : Nat) (ch : Bool) (ta : Option Addr) (tn tc : Nat) (na : Option Addr) (nn nc : Nat) (hy : a.eval y = .agg (plC sa sn sc ch ta tn tc na nn nc)) {old : Array Value} (hg : Row w g 44 old) (ho2 : old.size = 4)
    (h : wpList Tryd.prog ops Q rest (a.put o.dst undef) (w.setRow g (plC sa sn sc ch ta tn tc na nn nc))) : wpList Tryd.prog ops Q (o :: rest) a w :=
  wpList_store_row hgd _ x y ho g _ hx hy _ old hg pln4 ho2 (plC_one _ _ _ _ _ _ _ _ _ _) h
/-- No text lies among the cells. -/
def NoStr (cs : Array Value) : Prop := ∀ (o : Nat) (z : ByteArray), cs[o]? ≠ some (.string z)
theorem noStr_pl (sa : Option Addr) (sn sc : Nat) (ch : Bool) (ta : Option Addr) (tn tc : Nat) (na : Option Addr) (nn nc : Nat) : NoStr (plC sa sn sc ch ta tn tc na nn nc) := by
  intro o z h
  unfold plC at h
  rcases o with _ | _ | _ | _ | o
  all_goals first | (simp at h; done) | (cases h)
theorem noStr_arr (ch : Bool) (more : Int) (d : Nat → Int) (na : Option Addr) (nn nc : Nat) (ta : Option Addr) (tn tc : Nat) : NoStr (arrC ch more d na nn nc ta tn tc) := by
  intro o z h
  rcases arr_cells o _ h with ⟨_, _, e⟩ | ⟨_, _, _, e⟩ | ⟨_, _, _, _, _, e⟩ <;> cases e
theorem QRow.apart {w : World} {a : Option Addr} {n c : Nat} {fB : Nat → Bool} {fS fT : Nat → ByteArray} {g : Nat} {t : TypeId} {cs : Array Value} (h : QRow w a n c fB fS fT) (hr : Row w g t cs) (hn : NoStr cs) : n = 0 ∨ ∀ x, a = some x → x.block ≠ g := by
  rcases Nat.eq_zero_or_pos n with h0 | h0
  · exact .inl h0
  · obtain ⟨b, off, rfl, _, hc⟩ := h.2.2.resolve_left (by omega)
    refine .inr fun x hx e => ?_
    obtain rfl := Option.some.inj hx
    have e : b = g := e
    subst e
    have := (hc 0 h0).2.1
    rw [hr.cell] at this
    exact hn _ _ this
/-- A plain array stays when a block turns that holds neither a number nor a text. -/
theorem PlnAt.away {w w' : World} {cs : Array Value} {S : Nat → Int} {r : Nat} {ch : Bool} {g : Nat → Int} {tn : Nat} {fB : Nat → Bool} {fS fT : Nat → ByteArray} {nn : Nat} (h : PlnAt w cs S r ch g tn fB fS fT nn) {k : Nat} {t : TypeId} {cs0 : Array Value} (hr : Row w k t cs0) (h1 : NoInt cs0) (h2 : NoStr cs0) (hf : Far k w w') : PlnAt w' cs S r ch g tn fB fS fT nn := by
  obtain ⟨sa, sc, ta, tc, na, nc, e, a1, a2, a3⟩ := h
  exact ⟨sa, sc, ta, tc, na, nc, e, a1.away (a1.apart hr h1) hf, a2.away (a2.apart hr h1) hf, a3.away (a3.apart hr h2) hf⟩
def plZer : Array Value := plC none 0 0 false none 0 0 none 0 0
theorem ans_pln {w w3 : World} {cs : Array Value} {S : Nat → Int} {r : Nat} {ch : Bool} {g : Nat → Int} {tn : Nat} {fB : Nat → Bool} {fS fT : Nat → ByteArray} {nn : Nat} (h : PlnAt w3 cs S r ch g tn fB fS fT nn) (hb : Below w.heap.size w w3) {k : Nat} {t : TypeId} (hr0 : Row w3 k t plZer) (hk : w.heap.size ≤ k) :
    PlnTold S r ch g tn fB fS fT nn w (w3.setRow k cs) (.returned (.agg cs)) :=
  ⟨cs, rfl, h.away hr0 (noInt_pl _ _ _ _ _ _ _ _ _ _) (noStr_pl _ _ _ _ _ _ _ _ _ _) (Far.setRow _ _ _), below_put hb hk _⟩

set_option maxHeartbeats 1600000 in
set_option maxRecDepth 100000 in
theorem r6Int_any (X : Int) (w : World) (h : -9223372036854775808 ≤ X ∧ X ≤ 9223372036854775807) :
    Calls Tryd.prog 17 #[.int .i64 X] w fun e w' => ∀ S g, PlnTold S 0 false g 0 (fun _ => rB X) (fun _ => rS X) (fun _ => str (dec 1)) 1 w w' e := by
  have FR := Lib.hid (fun wz => r3From_any X wz h)
  unfold NumTold at FR
  have NM := Lib.hid (fun b s t wz => r6Num_any b s t wz)
  unfold PlnTold at NM
  have BB := Lib.hid ((Bag.start w).newRow plZer 44)
  clear h
  generalize rB X = b at *
  generalize rS X = s at *
  generalize str (dec 1) = t at *
  go_enter Tryd.func17, Tryd.ntmps17
  go_wp2_with fail
  go_at_call 30
  (with_reducible refine (FR.out _).mono ?_)
  rintro e w2 ⟨rfl, hb2⟩
  have BB := Lib.hid (BB.out.go hb2)
  clear hb2
  go_wp2_with fail
  go_at_call 35
  (with_reducible refine (NM.out _ _ _ _).mono ?_)
  intro e w3 hs
  obtain ⟨cs, rfl, hp0, hb3⟩ := hs (fun _ => 0) (fun _ => 0)
  have HP : ∀ S g, PlnAt w3 cs S 0 false g 0 (fun _ => b) (fun _ => s) (fun _ => t) 1 := fun S g => by
    obtain ⟨cs2, e2, h2, _⟩ := hs S g
    injection e2 with e2; injection e2 with e2; subst e2; exact h2
  have B3 := BB.out.go hb3
  have HE : Hid (∀ S g, PlnTold S 0 false g 0 (fun _ => b) (fun _ => s) (fun _ => t) 1 w (w3.setRow w.heap.size cs) (.returned (.agg cs))) := Lib.hid fun S g => ans_pln (HP S g) B3.below B3.now.1 (Nat.le_refl _)
  have HZ := Lib.hid B3.now.1
  obtain ⟨sa, sc, ta, tc, na, nc, rfl, _⟩ := hp0
  clear hb3 B3 HP hs
  unfold plC
  go_wp2_with (refine st_pln rfl (.tmp 2) (.tmp 5) rfl w.heap.size rfl _ _ _ _ _ _ _ _ _ _ rfl HZ.out rfl ?_)
  exact bodyPost_ret (res_pln Tryd.results17 rfl (HZ.out.put _) rfl) rfl HE.out

set_option linter.unusedSimpArgs false in
set_option maxHeartbeats 6400000 in
set_option maxRecDepth 100000 in
theorem r6Ints_any (a : Option Addr) (n c : Nat) (g : Nat → Int) (w : World) (h : KRow w .i64 a n c g) (hg : In64 g n) (hn : n ≤ 1000000) :
    Calls Tryd.prog 9 #[.slice a n c] w fun e w' => ∀ T, PlnTold (fun _ => (n : Int)) 1 false T 0 (fun j => rB (g j)) (fun j => rS (g j)) (fun _ => str (dec 1)) n w w' e := by
  have hl := h.len
  obtain ⟨i0, hi, hz0, hz1, hz2⟩ := info_parts infoN
  have FR := Lib.hid (fun X wz hx => r3From_any X wz hx)
  unfold NumTold at FR
  have HG := Lib.hid hg
  have KR := KRow.one (w.alloc (.cells plZer 44)) n 3
  have BB := Lib.hid ((((((Bag.start w).krow h).newRow plZer 44).alloc (.cells #[.int .i64 n] 3)).krow KR).newRow (plC (some ⟨w.heap.size + 1, 0, none⟩) 1 1 false none 0 0 none 0 0) 44)
  simp only [World.size_alloc] at BB
  clear h hg KR
  unfold plZer plC at BB
  go_enter Tryd.func9, Tryd.ntmps9
  go_wp2_with fail
  generalize ((w.alloc (.cells #[.slice none 0 0, .bool false, .slice none 0 0, .slice none 0 0] 44)).alloc (.cells #[.int .i64 n] 3)).alloc (.cells #[.slice (some ⟨w.heap.size + 1, 0, none⟩) 1 1, .bool false, .slice none 0 0, .slice none 0 0] 44) = y0 at *
  go_loopw [4] (fun i wr => ∃ (k : Nat) (a1 : Option Addr) (c1 : Nat), k ≤ n ∧ i = .int .i64 k ∧ Hid (Below w.heap.size w wr ∧ Far (w.heap.size + 1 + 1) y0 wr ∧ Row wr (w.heap.size + 1 + 1) 44 (plC (some ⟨w.heap.size + 1, 0, none⟩) 1 1 false none 0 0 a1 k c1) ∧ wr.ownsRow y0.heap.size 68 3 (.slice a1 k c1) k (qcs (fun j => rB (g j)) (fun j => rS (g j)) (fun _ => str (dec 1)) k))) (fun i _ => n - (intOf i).toNat)
  case atStart => exact ⟨0, none, 0, by omega, rfl, BB.out.below, Far.refl _ _, BB.out.now.1, World.ownsRow_nil _ _ _ _⟩
  case round =>
    obtain ⟨k, a1, c1, hk, rfl, hrel⟩ := hrel
    obtain ⟨hbl, hfar, hrp, hown⟩ := hrel.out
    have hni := noInt_pl (some ⟨w.heap.size + 1, 0, none⟩) 1 1 false none 0 0 none 0 0
    have hsz := BB.out.now.1.lt
    by_cases hlt : k < n
    · have hkr := BB.out.now.2.2.2.1.away (BB.out.now.2.2.2.1.apart BB.out.now.1 hni) hfar
      obtain ⟨b, off, rfl, hb, hc⟩ := hkr.get hlt
      have HX := Lib.hid (HG.out k hlt)
      have B1 := Lib.hid (((Bag.start wr).own hown).row hrp)
      have HBL := Lib.hid hbl
      have HF := Lib.hid hfar
      have qp : wr.cell? ⟨w.heap.size + 1 + 1, 3, none⟩ = some (.slice a1 k c1) := hrp.cell 3
      have HMX := Lib.hid (show k + 1 ≤ maxLen by unfold maxLen; omega)
      have HMY := Lib.hid (show (k + 1) * 40 ≤ 140737488355328 by omega)
      have HONE := Lib.hid (show ∀ u ∈ ([.bool (rB (g k)), .string (rS (g k)), .string (str (dec 1))] : List Value), u.oneCell' = true by intro u hu; simp at hu; rcases hu with rfl | rfl | rfl <;> rfl)
      have hk0 : (0 : Int) ≤ k := by omega
      have hk1 : (k : Int) < n := by omega
      have hk2 : (k : Int) ≤ n := by omega
      clear hbl hfar hrp hown hkr hni
      go_wp2_with fail
      go_region_law (first
        | (go_simp; go_at_call 30; (with_reducible refine (FR.out _ _ HX.out).mono ?_); rintro e w2 ⟨rfl, hb2⟩;
            have B2 := Lib.hid ((B1.out.drew.go hb2).newRow #[.bool (rB (g k)), .string (rS (g k)), .string (str (dec 1))] 68);
            have qp2 : w2.cell? ⟨w.heap.size + 1 + 1, 3, none⟩ = some (.slice a1 k c1) := (B1.out.drew.go hb2).now.1.cell 3;
            have qp3 : (w2.alloc (.cells #[.bool (rB (g k)), .string (rS (g k)), .string (str (dec 1))] 68)).cell? ⟨w.heap.size + 1 + 1, 3, none⟩ = some (.slice a1 k c1) := B2.out.now.2.1.cell 3;
            have HROW := Lib.hid B2.out.now.2.1;
            have HOWN := Lib.hid B2.out.now.2.2.1;
            have HNEW := Lib.hid (World.news_of_block B2.out.now.1);
            have HBA := Lib.hid (Nat.le_trans HF.out.size B2.out.below.size);
            have HNX := Lib.hid (pl_step HBL.out HF.out B2.out.below HROW.out HOWN.out (by decide) (by omega) BB.out.below.size);
            clear hb2)
        | (refine step_append_lies _ rfl (.tmp 16) (.tmp 22) 42 rfl y0.heap.size 68 i0 _ 3 40 Tryd.underlying42 hi hz0 hz1 hz2 rfl (by omega) (.slice a1 k c1) k _ rfl HOWN.out ⟨w2.heap.size, 0, none⟩ 1 1 [.bool (rB (g k)), .string (rS (g k)), .string (str (dec 1))] rfl rfl HNEW.out HONE.out (by omega) HMX.out HMY.out HBA.out _ rfl ?_; intro g9 cap9 w3 hown3 hgrow hor hlt3;
            have hr3 := HROW.out.grown hgrow (HROW.out.apart HOWN.out (by decide)); have qp : w3.cell? ⟨w.heap.size + 1 + 1, 3, none⟩ = some (.slice a1 k c1) := hr3.cell 3; have fp := hr3.free 3; have HN := Lib.hid (HNX.out g9 cap9 w3 hown3 hgrow); clear hown3 hgrow hor hlt3 hr3))
      all_goals
        go_wp2
        go_roundw
        case rel => exact ⟨k + 1, _, cap9, by omega, by go_num, HN.out⟩
        case measure => simp [intOf]; omega
    · obtain rfl : k = n := by omega
      have hr0 : Row wr w.heap.size 44 plZer := (hfar.block _ (by omega) BB.out.now.2.2.1.lt).trans BB.out.now.2.2.1
      have hks := BB.out.now.2.1.away (BB.out.now.2.1.apart BB.out.now.1 hni) hfar
      obtain ⟨a9, c9, he, hq⟩ := QRow.of_own hown
      injection he with he1 _ he2
      subst he1 he2
      have HE : Hid (∀ T, PlnTold (fun _ => (k : Int)) 1 false T 0 (fun j => rB (g j)) (fun j => rS (g j)) (fun _ => str (dec 1)) k w (wr.setRow w.heap.size (plC (some ⟨w.heap.size + 1, 0, none⟩) 1 1 false none 0 0 a1 k c1)) (.returned (.agg (plC (some ⟨w.heap.size + 1, 0, none⟩) 1 1 false none 0 0 a1 k c1)))) :=
        Lib.hid fun T => ans_pln ⟨_, _, _, _, _, _, rfl, hks, KRow.nought _ _ _ _ (Nat.zero_le _) _, hq⟩ hbl hr0 (Nat.le_refl _)
      have HR0 := Lib.hid hr0
      have HRP := Lib.hid hrp
      clear hbl hfar hrp hown hks hq hr0 hni
      go_wp2_with (first
        | (refine ld_pln rfl (.tmp 3) rfl (w.heap.size + 1 + 1) rfl HRP.out ?_)
        | (refine st_pln rfl (.tmp 2) (.tmp 25) rfl w.heap.size rfl _ _ _ _ _ _ _ _ _ _ rfl HR0.out rfl ?_))
      exact bodyPost_ret (res_pln Tryd.results9 rfl (HR0.out.put _) rfl) rfl HE.out

end Go.Proofs.YtphabhddmdpkmaaDoor
